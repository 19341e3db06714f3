/-
  What AstCopyCard stands on, part 2.
-/
import Derived.Test.YtiigncmpbkfhmaaDoorCards
import Derived.Test.YtiigncmpbkfhmaaDoorTie
import Derived.WalkKit
import Derived.ProofKit
import Derived.OpenShut
import Derived.ChangeSlices
import Derived.WideKeyArgs
import Derived.Lib.SmallJoins
import Derived.Deep.DeepHandedRow
import Derived.Lib.LaidTab
import Derived.LaidSub
import Derived.Laws.MakeOwn
import Derived.Laws.Cover3
import Derived.Test.YtiigncmpbkfhmaaDoorPk1
namespace Go.Proofs.YtiigncmpbkfhmaaDoor
open Go Go.RowKit
def wordB (c : UInt8) : Bool := isLetter c || (isDigit c || (((c.toNat : Nat) : Int) == 95))
theorem take_of_all {P : UInt8 → Bool} : ∀ (r : List UInt8) (n : Nat), n ≤ r.length → (∀ j c, j < n → r[j]? = some c → P c = true) → (∀ c, r[n]? = some c → P c = false) → r.take n = r.takeWhile P := by
 intro r
 induction r with
 | nil => intro n _ _ _; simp
 | cons c r ih =>
  intro n hn h1 h2
  cases n with
  | zero => rw [List.takeWhile_cons, if_neg (by rw [h2 c rfl]; decide)]; rfl
  | succ n =>
   rw [List.takeWhile_cons, if_pos (h1 0 c (by omega) rfl), List.take_succ_cons, ih n (by simpa using hn) (fun j d hj hd => h1 (j + 1) d (by omega) (by simpa using hd)) (fun d hd => h2 d (by simpa using hd))]
def inWordB (c : UInt8) : Bool := isLetter c || isDigit c || (decide ((((c.toNat : Nat) : Int)) = 95))
set_option maxRecDepth 100000 in
set_option maxHeartbeats 4000000 in
theorem lex_isLetter (c : UInt8) (w0 : World) : Calls Tryd.prog 96 #[.int .u8 ((c.toNat : Nat) : Int)] w0 (Ret w0 (.bool (isLetter c))) := by
 refine calls_K (args := [.int .u8 ((c.toNat : Nat) : Int)]) (n := 17) (env := [(0, .int .u8 ((c.toNat : Nat) : Int))]) Tryd.func96 rfl rfl rfl ⟨rfl, trivial⟩ fun a w hK hM => ?_
 refine wp_seq ?_
 refine region_go (lst := [0]) (by kernel_rfl) ?_
 refine stepP hK 2 (.bool false) (by kernel_rfl) (by kernel_rfl) fun a hK => ?_
 refine region_done hK [(2, .bool false), (0, .int .u8 ((c.toNat : Nat) : Int))] ⟨rfl, rfl, trivial⟩ fun a hK => ?_
 refine wp_seq ?_
 refine region_go (lst := [0, 1, 2, 3, 4, 5, 6, 7, 8, 9, 10, 11, 12, 13, 14]) (by kernel_rfl) ?_
 refine stepM hK 3 0 (by kernel_rfl) (.inl rfl) rfl fun a hK => ?_
 by_cases h1 : (97 : Int) ≤ ((c.toNat : Nat) : Int)
 ·refine stepP hK 4 (.bool true) (by kernel_rfl) (okBool (b := (decide ((97 : Int) ≤ ((c.toNat : Nat) : Int)))) (by kernel_rfl) (decide_eq_true h1)) fun a hK => ?_
  refine stepM hK 5 4 (by kernel_rfl) (.inl rfl) rfl fun a hK => ?_
  refine stepM hK 6 0 (by kernel_rfl) (.inl rfl) rfl fun a hK => ?_
  by_cases h2 : (((c.toNat : Nat) : Int) : Int) ≤ 122
  ·refine stepP hK 7 (.bool true) (by kernel_rfl) (okBool (b := (decide ((((c.toNat : Nat) : Int) : Int) ≤ 122))) (by kernel_rfl) (decide_eq_true h2)) fun a hK => ?_
   refine stepP hK 8 (.bool true) (by kernel_rfl) (by kernel_rfl) fun a hK => ?_
   refine stepM hK 9 8 (by kernel_rfl) (.inl rfl) rfl fun a hK => ?_
   refine stepN hK 10 (by kernel_rfl) fun a hK => ?_
   refine stepN hK 11 (by kernel_rfl) fun a hK => ?_
   refine stepN hK 12 (by kernel_rfl) fun a hK => ?_
   refine stepN hK 13 (by kernel_rfl) fun a hK => ?_
   refine stepN hK 14 (by kernel_rfl) fun a hK => ?_
   refine stepN hK 15 (by kernel_rfl) fun a hK => ?_
   refine stepP hK 16 (.bool true) (by kernel_rfl) (by kernel_rfl) fun a hK => ?_
   refine stepM hK 2 16 (by kernel_rfl) (.inr rfl) rfl fun a hK => ?_
   refine region_done hK [(2, .bool true), (0, .int .u8 ((c.toNat : Nat) : Int))] ⟨rfl, rfl, trivial⟩ fun a hK => ?_
   refine wp_ret ?_
   exact ret_t hK rfl (u := (.bool true)) rfl (⟨congrArg Ending.returned (congrArg Value.bool (by unfold isLetter; rw [(decide_eq_true h1), (decide_eq_true h2)]; try rfl)), hM.below⟩)
  ·refine stepP hK 7 (.bool false) (by kernel_rfl) (okBool (b := (decide ((((c.toNat : Nat) : Int) : Int) ≤ 122))) (by kernel_rfl) (decide_eq_false h2)) fun a hK => ?_
   refine stepP hK 8 (.bool false) (by kernel_rfl) (by kernel_rfl) fun a hK => ?_
   refine stepM hK 9 8 (by kernel_rfl) (.inl rfl) rfl fun a hK => ?_
   refine stepM hK 10 0 (by kernel_rfl) (.inl rfl) rfl fun a hK => ?_
   by_cases h3 : (65 : Int) ≤ ((c.toNat : Nat) : Int)
   ·refine stepP hK 11 (.bool true) (by kernel_rfl) (okBool (b := (decide ((65 : Int) ≤ ((c.toNat : Nat) : Int)))) (by kernel_rfl) (decide_eq_true h3)) fun a hK => ?_
    refine stepM hK 12 11 (by kernel_rfl) (.inl rfl) rfl fun a hK => ?_
    refine stepM hK 13 0 (by kernel_rfl) (.inl rfl) rfl fun a hK => ?_
    by_cases h4 : (((c.toNat : Nat) : Int) : Int) ≤ 90
    ·refine stepP hK 14 (.bool true) (by kernel_rfl) (okBool (b := (decide ((((c.toNat : Nat) : Int) : Int) ≤ 90))) (by kernel_rfl) (decide_eq_true h4)) fun a hK => ?_
     refine stepP hK 15 (.bool true) (by kernel_rfl) (by kernel_rfl) fun a hK => ?_
     refine stepP hK 16 (.bool true) (by kernel_rfl) (by kernel_rfl) fun a hK => ?_
     refine stepM hK 2 16 (by kernel_rfl) (.inr rfl) rfl fun a hK => ?_
     refine region_done hK [(2, .bool true), (0, .int .u8 ((c.toNat : Nat) : Int))] ⟨rfl, rfl, trivial⟩ fun a hK => ?_
     refine wp_ret ?_
     exact ret_t hK rfl (u := (.bool true)) rfl (⟨congrArg Ending.returned (congrArg Value.bool (by unfold isLetter; rw [(decide_eq_true h1), (decide_eq_false h2), (decide_eq_true h3), (decide_eq_true h4)]; try rfl)), hM.below⟩)
    ·refine stepP hK 14 (.bool false) (by kernel_rfl) (okBool (b := (decide ((((c.toNat : Nat) : Int) : Int) ≤ 90))) (by kernel_rfl) (decide_eq_false h4)) fun a hK => ?_
     refine stepP hK 15 (.bool false) (by kernel_rfl) (by kernel_rfl) fun a hK => ?_
     refine stepP hK 16 (.bool false) (by kernel_rfl) (by kernel_rfl) fun a hK => ?_
     refine stepM hK 2 16 (by kernel_rfl) (.inr rfl) rfl fun a hK => ?_
     refine region_done hK [(2, .bool false), (0, .int .u8 ((c.toNat : Nat) : Int))] ⟨rfl, rfl, trivial⟩ fun a hK => ?_
     refine wp_ret ?_
     exact ret_t hK rfl (u := (.bool false)) rfl (⟨congrArg Ending.returned (congrArg Value.bool (by unfold isLetter; rw [(decide_eq_true h1), (decide_eq_false h2), (decide_eq_true h3), (decide_eq_false h4)]; try rfl)), hM.below⟩)
   ·refine stepP hK 11 (.bool false) (by kernel_rfl) (okBool (b := (decide ((65 : Int) ≤ ((c.toNat : Nat) : Int)))) (by kernel_rfl) (decide_eq_false h3)) fun a hK => ?_
    refine stepM hK 12 11 (by kernel_rfl) (.inl rfl) rfl fun a hK => ?_
    refine stepN hK 13 (by kernel_rfl) fun a hK => ?_
    refine stepN hK 14 (by kernel_rfl) fun a hK => ?_
    refine stepP hK 15 (.bool false) (by kernel_rfl) (by kernel_rfl) fun a hK => ?_
    refine stepP hK 16 (.bool false) (by kernel_rfl) (by kernel_rfl) fun a hK => ?_
    refine stepM hK 2 16 (by kernel_rfl) (.inr rfl) rfl fun a hK => ?_
    refine region_done hK [(2, .bool false), (0, .int .u8 ((c.toNat : Nat) : Int))] ⟨rfl, rfl, trivial⟩ fun a hK => ?_
    refine wp_ret ?_
    exact ret_t hK rfl (u := (.bool false)) rfl (⟨congrArg Ending.returned (congrArg Value.bool (by unfold isLetter; rw [(decide_eq_true h1), (decide_eq_false h2), (decide_eq_false h3)]; try rfl)), hM.below⟩)
 ·refine stepP hK 4 (.bool false) (by kernel_rfl) (okBool (b := (decide ((97 : Int) ≤ ((c.toNat : Nat) : Int)))) (by kernel_rfl) (decide_eq_false h1)) fun a hK => ?_
  refine stepM hK 5 4 (by kernel_rfl) (.inl rfl) rfl fun a hK => ?_
  refine stepN hK 6 (by kernel_rfl) fun a hK => ?_
  refine stepN hK 7 (by kernel_rfl) fun a hK => ?_
  refine stepP hK 8 (.bool false) (by kernel_rfl) (by kernel_rfl) fun a hK => ?_
  refine stepM hK 9 8 (by kernel_rfl) (.inl rfl) rfl fun a hK => ?_
  refine stepM hK 10 0 (by kernel_rfl) (.inl rfl) rfl fun a hK => ?_
  by_cases h5 : (65 : Int) ≤ ((c.toNat : Nat) : Int)
  ·refine stepP hK 11 (.bool true) (by kernel_rfl) (okBool (b := (decide ((65 : Int) ≤ ((c.toNat : Nat) : Int)))) (by kernel_rfl) (decide_eq_true h5)) fun a hK => ?_
   refine stepM hK 12 11 (by kernel_rfl) (.inl rfl) rfl fun a hK => ?_
   refine stepM hK 13 0 (by kernel_rfl) (.inl rfl) rfl fun a hK => ?_
   by_cases h6 : (((c.toNat : Nat) : Int) : Int) ≤ 90
   ·refine stepP hK 14 (.bool true) (by kernel_rfl) (okBool (b := (decide ((((c.toNat : Nat) : Int) : Int) ≤ 90))) (by kernel_rfl) (decide_eq_true h6)) fun a hK => ?_
    refine stepP hK 15 (.bool true) (by kernel_rfl) (by kernel_rfl) fun a hK => ?_
    refine stepP hK 16 (.bool true) (by kernel_rfl) (by kernel_rfl) fun a hK => ?_
    refine stepM hK 2 16 (by kernel_rfl) (.inr rfl) rfl fun a hK => ?_
    refine region_done hK [(2, .bool true), (0, .int .u8 ((c.toNat : Nat) : Int))] ⟨rfl, rfl, trivial⟩ fun a hK => ?_
    refine wp_ret ?_
    exact ret_t hK rfl (u := (.bool true)) rfl (⟨congrArg Ending.returned (congrArg Value.bool (by unfold isLetter; rw [(decide_eq_false h1), (decide_eq_true h5), (decide_eq_true h6)]; try rfl)), hM.below⟩)
   ·refine stepP hK 14 (.bool false) (by kernel_rfl) (okBool (b := (decide ((((c.toNat : Nat) : Int) : Int) ≤ 90))) (by kernel_rfl) (decide_eq_false h6)) fun a hK => ?_
    refine stepP hK 15 (.bool false) (by kernel_rfl) (by kernel_rfl) fun a hK => ?_
    refine stepP hK 16 (.bool false) (by kernel_rfl) (by kernel_rfl) fun a hK => ?_
    refine stepM hK 2 16 (by kernel_rfl) (.inr rfl) rfl fun a hK => ?_
    refine region_done hK [(2, .bool false), (0, .int .u8 ((c.toNat : Nat) : Int))] ⟨rfl, rfl, trivial⟩ fun a hK => ?_
    refine wp_ret ?_
    exact ret_t hK rfl (u := (.bool false)) rfl (⟨congrArg Ending.returned (congrArg Value.bool (by unfold isLetter; rw [(decide_eq_false h1), (decide_eq_true h5), (decide_eq_false h6)]; try rfl)), hM.below⟩)
  ·refine stepP hK 11 (.bool false) (by kernel_rfl) (okBool (b := (decide ((65 : Int) ≤ ((c.toNat : Nat) : Int)))) (by kernel_rfl) (decide_eq_false h5)) fun a hK => ?_
   refine stepM hK 12 11 (by kernel_rfl) (.inl rfl) rfl fun a hK => ?_
   refine stepN hK 13 (by kernel_rfl) fun a hK => ?_
   refine stepN hK 14 (by kernel_rfl) fun a hK => ?_
   refine stepP hK 15 (.bool false) (by kernel_rfl) (by kernel_rfl) fun a hK => ?_
   refine stepP hK 16 (.bool false) (by kernel_rfl) (by kernel_rfl) fun a hK => ?_
   refine stepM hK 2 16 (by kernel_rfl) (.inr rfl) rfl fun a hK => ?_
   refine region_done hK [(2, .bool false), (0, .int .u8 ((c.toNat : Nat) : Int))] ⟨rfl, rfl, trivial⟩ fun a hK => ?_
   refine wp_ret ?_
   exact ret_t hK rfl (u := (.bool false)) rfl (⟨congrArg Ending.returned (congrArg Value.bool (by unfold isLetter; rw [(decide_eq_false h1), (decide_eq_false h5)]; try rfl)), hM.below⟩)
theorem en_lex_isLetter : Enters Tryd.prog 96 := enters_of Tryd.func96 (by kernel_rfl) rfl
set_option maxRecDepth 100000 in
set_option maxHeartbeats 4000000 in
theorem lex_isDigit (c : UInt8) (w0 : World) : Calls Tryd.prog 113 #[.int .u8 ((c.toNat : Nat) : Int)] w0 (Ret w0 (.bool (isDigit c))) := by
 refine calls_K (args := [.int .u8 ((c.toNat : Nat) : Int)]) (n := 9) (env := [(0, .int .u8 ((c.toNat : Nat) : Int))]) Tryd.func113 rfl rfl rfl ⟨rfl, trivial⟩ fun a w hK hM => ?_
 refine wp_seq ?_
 refine region_go (lst := [0]) (by kernel_rfl) ?_
 refine stepP hK 2 (.bool false) (by kernel_rfl) (by kernel_rfl) fun a hK => ?_
 refine region_done hK [(2, .bool false), (0, .int .u8 ((c.toNat : Nat) : Int))] ⟨rfl, rfl, trivial⟩ fun a hK => ?_
 refine wp_seq ?_
 refine region_go (lst := [0, 1, 2, 3, 4, 5, 6]) (by kernel_rfl) ?_
 refine stepM hK 3 0 (by kernel_rfl) (.inl rfl) rfl fun a hK => ?_
 by_cases h1 : (48 : Int) ≤ ((c.toNat : Nat) : Int)
 ·refine stepP hK 4 (.bool true) (by kernel_rfl) (okBool (b := (decide ((48 : Int) ≤ ((c.toNat : Nat) : Int)))) (by kernel_rfl) (decide_eq_true h1)) fun a hK => ?_
  refine stepM hK 5 4 (by kernel_rfl) (.inl rfl) rfl fun a hK => ?_
  refine stepM hK 6 0 (by kernel_rfl) (.inl rfl) rfl fun a hK => ?_
  by_cases h2 : (((c.toNat : Nat) : Int) : Int) ≤ 57
  ·refine stepP hK 7 (.bool true) (by kernel_rfl) (okBool (b := (decide ((((c.toNat : Nat) : Int) : Int) ≤ 57))) (by kernel_rfl) (decide_eq_true h2)) fun a hK => ?_
   refine stepP hK 8 (.bool true) (by kernel_rfl) (by kernel_rfl) fun a hK => ?_
   refine stepM hK 2 8 (by kernel_rfl) (.inr rfl) rfl fun a hK => ?_
   refine region_done hK [(2, .bool true), (0, .int .u8 ((c.toNat : Nat) : Int))] ⟨rfl, rfl, trivial⟩ fun a hK => ?_
   refine wp_ret ?_
   exact ret_t hK rfl (u := (.bool true)) rfl (⟨congrArg Ending.returned (congrArg Value.bool (by unfold isDigit; rw [(decide_eq_true h1), (decide_eq_true h2)]; try rfl)), hM.below⟩)
  ·refine stepP hK 7 (.bool false) (by kernel_rfl) (okBool (b := (decide ((((c.toNat : Nat) : Int) : Int) ≤ 57))) (by kernel_rfl) (decide_eq_false h2)) fun a hK => ?_
   refine stepP hK 8 (.bool false) (by kernel_rfl) (by kernel_rfl) fun a hK => ?_
   refine stepM hK 2 8 (by kernel_rfl) (.inr rfl) rfl fun a hK => ?_
   refine region_done hK [(2, .bool false), (0, .int .u8 ((c.toNat : Nat) : Int))] ⟨rfl, rfl, trivial⟩ fun a hK => ?_
   refine wp_ret ?_
   exact ret_t hK rfl (u := (.bool false)) rfl (⟨congrArg Ending.returned (congrArg Value.bool (by unfold isDigit; rw [(decide_eq_true h1), (decide_eq_false h2)]; try rfl)), hM.below⟩)
 ·refine stepP hK 4 (.bool false) (by kernel_rfl) (okBool (b := (decide ((48 : Int) ≤ ((c.toNat : Nat) : Int)))) (by kernel_rfl) (decide_eq_false h1)) fun a hK => ?_
  refine stepM hK 5 4 (by kernel_rfl) (.inl rfl) rfl fun a hK => ?_
  refine stepN hK 6 (by kernel_rfl) fun a hK => ?_
  refine stepN hK 7 (by kernel_rfl) fun a hK => ?_
  refine stepP hK 8 (.bool false) (by kernel_rfl) (by kernel_rfl) fun a hK => ?_
  refine stepM hK 2 8 (by kernel_rfl) (.inr rfl) rfl fun a hK => ?_
  refine region_done hK [(2, .bool false), (0, .int .u8 ((c.toNat : Nat) : Int))] ⟨rfl, rfl, trivial⟩ fun a hK => ?_
  refine wp_ret ?_
  exact ret_t hK rfl (u := (.bool false)) rfl (⟨congrArg Ending.returned (congrArg Value.bool (by unfold isDigit; rw [(decide_eq_false h1)]; try rfl)), hM.below⟩)
theorem en_lex_isDigit : Enters Tryd.prog 113 := enters_of Tryd.func113 (by kernel_rfl) rfl
set_option maxRecDepth 100000 in
set_option maxHeartbeats 4000000 in
theorem lex_inWord (c : UInt8) (w0 : World) : Calls Tryd.prog 98 #[.int .u8 ((c.toNat : Nat) : Int)] w0 (Ret w0 (.bool (inWordB c))) := by
 refine calls_K (args := [.int .u8 ((c.toNat : Nat) : Int)]) (n := 13) (env := [(0, .int .u8 ((c.toNat : Nat) : Int))]) Tryd.func98 rfl rfl rfl ⟨rfl, trivial⟩ fun a w hK hM => ?_
 refine wp_seq ?_
 refine region_go (lst := [0]) (by kernel_rfl) ?_
 refine stepP hK 2 (.bool false) (by kernel_rfl) (by kernel_rfl) fun a hK => ?_
 refine region_done hK [(2, .bool false), (0, .int .u8 ((c.toNat : Nat) : Int))] ⟨rfl, rfl, trivial⟩ fun a hK => ?_
 refine wp_seq ?_
 refine region_go (lst := [0, 1, 2, 3, 4, 5, 6, 7, 8, 9, 10]) (by kernel_rfl) ?_
 refine stepM hK 3 0 (by kernel_rfl) (.inl rfl) rfl fun a hK => ?_
 rcases Bool.eq_false_or_eq_true (isLetter c) with h1 | h1
 ·refine stepRet hK hM 4 #[.int .u8 ((c.toNat : Nat) : Int)] (.bool true) (by kernel_rfl) (run_callE en_lex_isLetter rfl rfl (by kernel_rfl)) (ret_eq (lex_isLetter c _) (congrArg Value.bool h1)) fun a w hK hM => ?_
  refine stepM hK 5 4 (by kernel_rfl) (.inl rfl) rfl fun a hK => ?_
  refine stepN hK 6 (by kernel_rfl) fun a hK => ?_
  refine stepN hK 7 (by kernel_rfl) fun a hK => ?_
  refine stepP hK 8 (.bool true) (by kernel_rfl) (by kernel_rfl) fun a hK => ?_
  refine stepM hK 9 8 (by kernel_rfl) (.inl rfl) rfl fun a hK => ?_
  refine stepN hK 10 (by kernel_rfl) fun a hK => ?_
  refine stepN hK 11 (by kernel_rfl) fun a hK => ?_
  refine stepP hK 12 (.bool true) (by kernel_rfl) (by kernel_rfl) fun a hK => ?_
  refine stepM hK 2 12 (by kernel_rfl) (.inr rfl) rfl fun a hK => ?_
  refine region_done hK [(2, .bool true), (0, .int .u8 ((c.toNat : Nat) : Int))] ⟨rfl, rfl, trivial⟩ fun a hK => ?_
  refine wp_ret ?_
  exact ret_t hK rfl (u := (.bool true)) rfl (⟨congrArg Ending.returned (congrArg Value.bool (by unfold inWordB; rw [h1]; try rfl)), hM.below⟩)
 ·refine stepRet hK hM 4 #[.int .u8 ((c.toNat : Nat) : Int)] (.bool false) (by kernel_rfl) (run_callE en_lex_isLetter rfl rfl (by kernel_rfl)) (ret_eq (lex_isLetter c _) (congrArg Value.bool h1)) fun a w hK hM => ?_
  refine stepM hK 5 4 (by kernel_rfl) (.inl rfl) rfl fun a hK => ?_
  refine stepM hK 6 0 (by kernel_rfl) (.inl rfl) rfl fun a hK => ?_
  rcases Bool.eq_false_or_eq_true (isDigit c) with h2 | h2
  ·refine stepRet hK hM 7 #[.int .u8 ((c.toNat : Nat) : Int)] (.bool true) (by kernel_rfl) (run_callE en_lex_isDigit rfl rfl (by kernel_rfl)) (ret_eq (lex_isDigit c _) (congrArg Value.bool h2)) fun a w hK hM => ?_
   refine stepP hK 8 (.bool true) (by kernel_rfl) (by kernel_rfl) fun a hK => ?_
   refine stepM hK 9 8 (by kernel_rfl) (.inl rfl) rfl fun a hK => ?_
   refine stepN hK 10 (by kernel_rfl) fun a hK => ?_
   refine stepN hK 11 (by kernel_rfl) fun a hK => ?_
   refine stepP hK 12 (.bool true) (by kernel_rfl) (by kernel_rfl) fun a hK => ?_
   refine stepM hK 2 12 (by kernel_rfl) (.inr rfl) rfl fun a hK => ?_
   refine region_done hK [(2, .bool true), (0, .int .u8 ((c.toNat : Nat) : Int))] ⟨rfl, rfl, trivial⟩ fun a hK => ?_
   refine wp_ret ?_
   exact ret_t hK rfl (u := (.bool true)) rfl (⟨congrArg Ending.returned (congrArg Value.bool (by unfold inWordB; rw [h1, h2]; try rfl)), hM.below⟩)
  ·refine stepRet hK hM 7 #[.int .u8 ((c.toNat : Nat) : Int)] (.bool false) (by kernel_rfl) (run_callE en_lex_isDigit rfl rfl (by kernel_rfl)) (ret_eq (lex_isDigit c _) (congrArg Value.bool h2)) fun a w hK hM => ?_
   refine stepP hK 8 (.bool false) (by kernel_rfl) (by kernel_rfl) fun a hK => ?_
   refine stepM hK 9 8 (by kernel_rfl) (.inl rfl) rfl fun a hK => ?_
   refine stepM hK 10 0 (by kernel_rfl) (.inl rfl) rfl fun a hK => ?_
   by_cases h3 : (((c.toNat : Nat) : Int) : Int) = 95
   ·refine stepP hK 11 (.bool true) (by kernel_rfl) (okBool (b := (decide ((((c.toNat : Nat) : Int) : Int) = 95))) (by kernel_rfl) (decide_eq_true h3)) fun a hK => ?_
    refine stepP hK 12 (.bool true) (by kernel_rfl) (by kernel_rfl) fun a hK => ?_
    refine stepM hK 2 12 (by kernel_rfl) (.inr rfl) rfl fun a hK => ?_
    refine region_done hK [(2, .bool true), (0, .int .u8 ((c.toNat : Nat) : Int))] ⟨rfl, rfl, trivial⟩ fun a hK => ?_
    refine wp_ret ?_
    exact ret_t hK rfl (u := (.bool true)) rfl (⟨congrArg Ending.returned (congrArg Value.bool (by unfold inWordB; rw [h1, h2, (decide_eq_true h3)]; try rfl)), hM.below⟩)
   ·refine stepP hK 11 (.bool false) (by kernel_rfl) (okBool (b := (decide ((((c.toNat : Nat) : Int) : Int) = 95))) (by kernel_rfl) (decide_eq_false h3)) fun a hK => ?_
    refine stepP hK 12 (.bool false) (by kernel_rfl) (by kernel_rfl) fun a hK => ?_
    refine stepM hK 2 12 (by kernel_rfl) (.inr rfl) rfl fun a hK => ?_
    refine region_done hK [(2, .bool false), (0, .int .u8 ((c.toNat : Nat) : Int))] ⟨rfl, rfl, trivial⟩ fun a hK => ?_
    refine wp_ret ?_
    exact ret_t hK rfl (u := (.bool false)) rfl (⟨congrArg Ending.returned (congrArg Value.bool (by unfold inWordB; rw [h1, h2, (decide_eq_false h3)]; try rfl)), hM.below⟩)
theorem en_lex_inWord : Enters Tryd.prog 98 := enters_of Tryd.func98 (by kernel_rfl) rfl
def runL (p : UInt8 → Bool) (l : List UInt8) : Nat := (l.takeWhile p).length
theorem takeWhile_all {p : UInt8 → Bool} : ∀ {l : List UInt8}, (∀ (j : Nat) (c : UInt8), j < l.length → l[j]? = some c → p c = true) → l.takeWhile p = l := by
 intro l h
 have := take_of_all l l.length (Nat.le_refl _) (fun j c hj hc => h j c hj hc) (fun c hc => by rw [List.getElem?_eq_none (Nat.le_refl _)] at hc; cases hc)
 rw [← this, List.take_length]
theorem runL_all {p : UInt8 → Bool} {l : List UInt8} (h : ∀ (j : Nat) (c : UInt8), j < l.length → l[j]? = some c → p c = true) : l.length = runL p l := by
 unfold runL; rw [takeWhile_all h]
theorem runL_at {p : UInt8 → Bool} {l : List UInt8} {i : Nat} {c : UInt8} (hi : i ≤ l.length) (h : ∀ (j : Nat) (c : UInt8), j < i → l[j]? = some c → p c = true) (hc : l[i]? = some c) (hp : p c = false) : i = runL p l := by
 unfold runL
 rw [← take_of_all l i hi h (fun d hd => by rw [hc] at hd; rw [← Option.some.inj hd]; exact hp), List.length_take]
 omega
set_option maxRecDepth 100000 in
set_option maxHeartbeats 4000000 in
theorem lex_run (l : List UInt8) (hlen : l.length ≤ 4611686018427387904) (g : Nat) (p : UInt8 → Bool) (he : Enters Tryd.prog g) (hp : ∀ (c : UInt8) (w : World), Calls Tryd.prog g #[.int .u8 ((c.toNat : Nat) : Int)] w (Ret w (.bool (p c)))) (w0 : World) : Calls Tryd.prog 97 #[Str l, .func (.func g) #[] #[]] w0 (Ret w0 (.int .i64 ((runL p l : Nat) : Int))) := by
 refine calls_K (args := [Str l, .func (.func g) #[] #[]]) (n := 21) (env := [(0, Str l), (1, .func (.func g) #[] #[])]) Tryd.func97 rfl rfl rfl ⟨rfl, rfl, trivial⟩ fun a w hK hM => ?_
 refine wp_seq ?_
 refine region_go (lst := [0]) (by kernel_rfl) ?_
 refine stepP hK 4 (.int .i64 0) (by kernel_rfl) (by kernel_rfl) fun a hK => ?_
 refine region_done hK [(4, .int .i64 0), (0, Str l), (1, .func (.func g) #[] #[])] ⟨rfl, rfl, rfl, trivial⟩ fun a hK => ?_
 refine wp_seq ?_
 refine wp_seq ?_
 refine region_go (lst := [0, 1, 2]) (by kernel_rfl) ?_
 refine stepM hK 6 0 (by kernel_rfl) (.inl rfl) rfl fun a hK => ?_
 refine stepP hK 7 (.int .i64 ((l.length : Nat) : Int)) (by kernel_rfl) (by kernel_rfl) fun a hK => ?_
 refine stepP hK 8 (.int .i64 0) (by kernel_rfl) (by kernel_rfl) fun a hK => ?_
 refine region_done hK [(8, .int .i64 0), (7, .int .i64 ((l.length : Nat) : Int)), (4, .int .i64 0), (0, Str l), (1, .func (.func g) #[] #[])] ⟨rfl, rfl, rfl, rfl, rfl, trivial⟩ fun a hK => ?_
 refine wp_block ?_
 refine wp_loopX (fun x : Nat => [(7, .int .i64 ((l.length : Nat) : Int)), (4, .int .i64 0), (0, Str l), (1, .func (.func g) #[] #[]), (8, vN x)]) (fun x : Nat => []) (fun x : Nat => x ≤ l.length ∧ ∀ (j : Nat) (c : UInt8), j < x → l[j]? = some c → p c = true) (fun x : Nat => l.length - x) 0 (hK.sub ⟨rfl, rfl, rfl, rfl, rfl, trivial⟩) hM ⟨Nat.zero_le _, fun j c hj => absurd hj (Nat.not_lt_zero j)⟩ ?_
 rintro i a w hK hM hR
 replace hK : Knows a 21 [(7, .int .i64 ((l.length : Nat) : Int)), (4, .int .i64 0), (0, Str l), (1, .func (.func g) #[] #[]), (8, vN i)] := hK
 replace hM : Mem w0 w [] := hM
 replace hR : i ≤ l.length ∧ ∀ (j : Nat) (c : UInt8), j < i → l[j]? = some c → p c = true := hR
 refine wp_seq ?_
 refine region_go (lst := [0]) (by kernel_rfl) ?_
 by_cases h1 : (((i : Nat) : Int) : Int) < ((l.length : Nat) : Int)
 ·refine stepP hK 9 (.bool true) (by kernel_rfl) (okBool (b := (decide ((((i : Nat) : Int) : Int) < ((l.length : Nat) : Int)))) (by kernel_rfl) (decide_eq_true h1)) fun a hK => ?_
  refine region_done hK [(9, .bool true), (7, .int .i64 ((l.length : Nat) : Int)), (4, .int .i64 0), (0, Str l), (1, .func (.func g) #[] #[]), (8, vN i)] ⟨rfl, rfl, rfl, rfl, rfl, rfl, trivial⟩ fun a hK => ?_
  refine wp_seq ?_
  refine wp_cond_true (hK.get rfl) ?_
  refine wp_skip ?_
  refine wp_seq ?_
  refine wp_block ?_
  refine wp_seq ?_
  refine region_go (lst := [0, 1]) (by kernel_rfl) ?_
  refine stepM hK 10 8 (by kernel_rfl) (.inl rfl) rfl fun a hK => ?_
  refine stepM hK 5 10 (by kernel_rfl) (.inr rfl) rfl fun a hK => ?_
  refine region_done hK [(5, vN i), (9, .bool true), (7, .int .i64 ((l.length : Nat) : Int)), (4, .int .i64 0), (0, Str l), (1, .func (.func g) #[] #[]), (8, vN i)] ⟨rfl, rfl, rfl, rfl, rfl, rfl, rfl, trivial⟩ fun a hK => ?_
  refine wp_seq ?_
  refine region_go (lst := [0, 1, 2, 3, 4, 5]) (by kernel_rfl) ?_
  refine stepM hK 11 1 (by kernel_rfl) (.inl rfl) rfl fun a hK => ?_
  refine stepM hK 12 0 (by kernel_rfl) (.inl rfl) rfl fun a hK => ?_
  refine stepM hK 13 5 (by kernel_rfl) (.inl rfl) rfl fun a hK => ?_
  obtain ⟨c2, hc2⟩ : ∃ c, l[(i : Nat)]? = some c := ⟨_, List.getElem?_eq_getElem (by omega)⟩
  refine stepP hK 14 (.int .u8 ((c2.toNat : Nat) : Int)) (by kernel_rfl) (run_idxS (k := i) rfl rfl rfl hc2) fun a hK => ?_
  rcases Bool.eq_false_or_eq_true (p c2) with h3 | h3
  ·refine stepRet hK hM 15 #[.int .u8 ((c2.toNat : Nat) : Int)] (.bool true) (by kernel_rfl) (run_callE he rfl rfl (by kernel_rfl)) (ret_eq (hp c2 _) (congrArg Value.bool h3)) fun a w hK hM => ?_
   refine stepP hK 16 (.bool false) (by kernel_rfl) (by kernel_rfl) fun a hK => ?_
   refine region_done hK [(16, .bool false), (5, vN i), (9, .bool true), (7, .int .i64 ((l.length : Nat) : Int)), (4, .int .i64 0), (0, Str l), (1, .func (.func g) #[] #[]), (8, vN i)] ⟨rfl, rfl, rfl, rfl, rfl, rfl, rfl, rfl, trivial⟩ fun a hK => ?_
   refine wp_cond_false (hK.get rfl) ?_
   refine wp_skip ?_
   refine region_go (lst := [0, 1]) (by kernel_rfl) ?_
   refine stepP hK 18 (.int .i64 (((i + 1) : Nat) : Int)) (by kernel_rfl) (run_addN (i := i) (j := 1) rfl rfl rfl (by omega)) fun a hK => ?_
   refine stepM hK 8 18 (by kernel_rfl) (.inl rfl) rfl fun a hK => ?_
   refine region_done hK [(8, .int .i64 (((i + 1) : Nat) : Int)), (16, .bool false), (5, vN i), (9, .bool true), (7, .int .i64 ((l.length : Nat) : Int)), (4, .int .i64 0), (0, Str l), (1, .func (.func g) #[] #[])] ⟨rfl, rfl, rfl, rfl, rfl, rfl, rfl, rfl, trivial⟩ fun a hK => ?_
   have hRn : (i + 1) ≤ l.length ∧ ∀ (j : Nat) (c : UInt8), j < (i + 1) → l[j]? = some c → p c = true := ⟨by omega, fun j d hj hd => (Nat.lt_succ_iff_lt_or_eq.1 hj).elim (fun h => hR.2 j d h hd) (fun h => by subst h; rw [hc2] at hd; rw [← Option.some.inj hd]; exact h3)⟩
   have hmn : l.length - (i + 1) < l.length - i := by omega
   exact ⟨i + 1, hK.sub ⟨rfl, rfl, rfl, rfl, rfl, trivial⟩, hM, hRn, hmn⟩
  ·refine stepRet hK hM 15 #[.int .u8 ((c2.toNat : Nat) : Int)] (.bool false) (by kernel_rfl) (run_callE he rfl rfl (by kernel_rfl)) (ret_eq (hp c2 _) (congrArg Value.bool h3)) fun a w hK hM => ?_
   refine stepP hK 16 (.bool true) (by kernel_rfl) (by kernel_rfl) fun a hK => ?_
   refine region_done hK [(16, .bool true), (5, vN i), (9, .bool true), (7, .int .i64 ((l.length : Nat) : Int)), (4, .int .i64 0), (0, Str l), (1, .func (.func g) #[] #[]), (8, vN i)] ⟨rfl, rfl, rfl, rfl, rfl, rfl, rfl, rfl, trivial⟩ fun a hK => ?_
   refine wp_cond_true (hK.get rfl) ?_
   refine wp_seq ?_
   refine region_go (lst := [0, 1]) (by kernel_rfl) ?_
   refine stepM hK 17 5 (by kernel_rfl) (.inl rfl) rfl fun a hK => ?_
   refine stepM hK 4 17 (by kernel_rfl) (.inr rfl) rfl fun a hK => ?_
   refine region_done hK [(4, vN i), (16, .bool true), (5, vN i), (9, .bool true), (7, .int .i64 ((l.length : Nat) : Int)), (0, Str l), (1, .func (.func g) #[] #[]), (8, vN i)] ⟨rfl, rfl, rfl, rfl, rfl, rfl, rfl, rfl, trivial⟩ fun a hK => ?_
   refine wp_ret ?_
   exact ret_t hK rfl (u := (vN i)) rfl (⟨congrArg (fun q : Nat => Ending.returned (.int .i64 (q : Int))) (runL_at hR.1 hR.2 hc2 h3), hM.below⟩)
 ·refine stepP hK 9 (.bool false) (by kernel_rfl) (okBool (b := (decide ((((i : Nat) : Int) : Int) < ((l.length : Nat) : Int)))) (by kernel_rfl) (decide_eq_false h1)) fun a hK => ?_
  refine region_done hK [(9, .bool false), (7, .int .i64 ((l.length : Nat) : Int)), (4, .int .i64 0), (0, Str l), (1, .func (.func g) #[] #[]), (8, vN i)] ⟨rfl, rfl, rfl, rfl, rfl, rfl, trivial⟩ fun a hK => ?_
  refine wp_seq ?_
  refine wp_cond_false (hK.get rfl) ?_
  refine wp_exit (exit_then (exit_then (exit_here 0 ?_)))
  refine wp_seq ?_
  refine region_go (lst := [0, 1, 2]) (by kernel_rfl) ?_
  refine stepM hK 19 0 (by kernel_rfl) (.inl rfl) rfl fun a hK => ?_
  refine stepP hK 20 (.int .i64 ((l.length : Nat) : Int)) (by kernel_rfl) (by kernel_rfl) fun a hK => ?_
  refine stepM hK 4 20 (by kernel_rfl) (.inr rfl) rfl fun a hK => ?_
  refine region_done hK [(4, .int .i64 ((l.length : Nat) : Int)), (9, .bool false), (7, .int .i64 ((l.length : Nat) : Int)), (0, Str l), (1, .func (.func g) #[] #[]), (8, vN i)] ⟨rfl, rfl, rfl, rfl, rfl, rfl, trivial⟩ fun a hK => ?_
  refine wp_ret ?_
  exact ret_t hK rfl (u := (.int .i64 ((l.length : Nat) : Int))) rfl (⟨congrArg (fun q : Nat => Ending.returned (.int .i64 (q : Int))) (runL_all (fun j c hj hc => hR.2 j c (by omega) hc)), hM.below⟩)
theorem en_lex_run : Enters Tryd.prog 97 := enters_of Tryd.func97 (by kernel_rfl) rfl
def kwEs : Array MapEntry := (setEs 0 keyL).toArray
def kwObj : Obj := .map kwEs 20
set_option maxRecDepth 100000 in
set_option maxHeartbeats 4000000 in
theorem lex_keywords  (w0 : World) : Calls Tryd.prog 100 #[] w0 (Gives w0 (fun b : Nat => .map (some b)) (fun b => [.obj b kwObj]) fun _ => True) := by
 refine calls_K (args := []) (n := 23) (env := []) Tryd.func100 rfl rfl rfl trivial fun a w hK hM => ?_
 refine wp_seq ?_
 refine region_go (lst := [0]) (by kernel_rfl) ?_
 refine stepP hK 0 (.map none) (by kernel_rfl) (by kernel_rfl) fun a hK => ?_
 refine region_done hK [(0, .map none)] ⟨rfl, trivial⟩ fun a hK => ?_
 refine wp_seq ?_
 refine region_go (lst := [0, 1, 2, 3, 4, 5, 6, 7, 8, 9, 10, 11, 12, 13, 14, 15, 16, 17, 18, 19, 20, 21, 22, 23, 24, 25, 26, 27, 28, 29, 30, 31, 32, 33, 34, 35, 36, 37, 38, 39, 40, 41, 42]) (by kernel_rfl) ?_
 refine stepObj hK hM 1 (.map #[] 0) (fun b => .map (some b)) (by kernel_rfl) (by kernel_rfl) fun b1 a w hK hM => ?_
 refine stepP hK 2 (.agg #[]) (by kernel_rfl) (by kernel_rfl) fun a hK => ?_
 refine stepSetObj hK hM 0 (.map #[⟨Str [115, 104, 97, 114, 101, 100], .agg #[], 0⟩] 1) (by kernel_rfl) rfl ((run_insS (kt := 9) (et := 79) (s := ⟨List.toArray [115, 104, 97, 114, 101, 100]⟩) (u := (.agg #[])) rfl rfl rfl rfl Tryd.underlying78 Tryd.underlying9 (hM.obj 0 rfl) (by kernel_rfl)).trans (by kernel_rfl)) fun w hM => ?_
 replace hM := hM.to [.obj b1 (.map #[⟨Str [115, 104, 97, 114, 101, 100], .agg #[], 0⟩] 1)] (by kernel_rfl)
 refine stepP hK 3 (.agg #[]) (by kernel_rfl) (by kernel_rfl) fun a hK => ?_
 refine stepSetObj hK hM 0 (.map #[⟨Str [115, 104, 97, 114, 101, 100], .agg #[], 0⟩, ⟨Str [112, 108, 97, 105, 110], .agg #[], 1⟩] 2) (by kernel_rfl) rfl ((run_insS (kt := 9) (et := 79) (s := ⟨List.toArray [112, 108, 97, 105, 110]⟩) (u := (.agg #[])) rfl rfl rfl rfl Tryd.underlying78 Tryd.underlying9 (hM.obj 0 rfl) (by kernel_rfl)).trans (by kernel_rfl)) fun w hM => ?_
 replace hM := hM.to [.obj b1 (.map #[⟨Str [115, 104, 97, 114, 101, 100], .agg #[], 0⟩, ⟨Str [112, 108, 97, 105, 110], .agg #[], 1⟩] 2)] (by kernel_rfl)
 refine stepP hK 4 (.agg #[]) (by kernel_rfl) (by kernel_rfl) fun a hK => ?_
 refine stepSetObj hK hM 0 (.map #[⟨Str [115, 104, 97, 114, 101, 100], .agg #[], 0⟩, ⟨Str [112, 108, 97, 105, 110], .agg #[], 1⟩, ⟨Str [116, 104, 114, 101, 97, 100], .agg #[], 2⟩] 3) (by kernel_rfl) rfl ((run_insS (kt := 9) (et := 79) (s := ⟨List.toArray [116, 104, 114, 101, 97, 100]⟩) (u := (.agg #[])) rfl rfl rfl rfl Tryd.underlying78 Tryd.underlying9 (hM.obj 0 rfl) (by kernel_rfl)).trans (by kernel_rfl)) fun w hM => ?_
 replace hM := hM.to [.obj b1 (.map #[⟨Str [115, 104, 97, 114, 101, 100], .agg #[], 0⟩, ⟨Str [112, 108, 97, 105, 110], .agg #[], 1⟩, ⟨Str [116, 104, 114, 101, 97, 100], .agg #[], 2⟩] 3)] (by kernel_rfl)
 refine stepP hK 5 (.agg #[]) (by kernel_rfl) (by kernel_rfl) fun a hK => ?_
 refine stepSetObj hK hM 0 (.map #[⟨Str [115, 104, 97, 114, 101, 100], .agg #[], 0⟩, ⟨Str [112, 108, 97, 105, 110], .agg #[], 1⟩, ⟨Str [116, 104, 114, 101, 97, 100], .agg #[], 2⟩, ⟨Str [105, 102], .agg #[], 3⟩] 4) (by kernel_rfl) rfl ((run_insS (kt := 9) (et := 79) (s := ⟨List.toArray [105, 102]⟩) (u := (.agg #[])) rfl rfl rfl rfl Tryd.underlying78 Tryd.underlying9 (hM.obj 0 rfl) (by kernel_rfl)).trans (by kernel_rfl)) fun w hM => ?_
 replace hM := hM.to [.obj b1 (.map #[⟨Str [115, 104, 97, 114, 101, 100], .agg #[], 0⟩, ⟨Str [112, 108, 97, 105, 110], .agg #[], 1⟩, ⟨Str [116, 104, 114, 101, 97, 100], .agg #[], 2⟩, ⟨Str [105, 102], .agg #[], 3⟩] 4)] (by kernel_rfl)
 refine stepP hK 6 (.agg #[]) (by kernel_rfl) (by kernel_rfl) fun a hK => ?_
 refine stepSetObj hK hM 0 (.map #[⟨Str [115, 104, 97, 114, 101, 100], .agg #[], 0⟩, ⟨Str [112, 108, 97, 105, 110], .agg #[], 1⟩, ⟨Str [116, 104, 114, 101, 97, 100], .agg #[], 2⟩, ⟨Str [105, 102], .agg #[], 3⟩, ⟨Str [101, 108, 115, 101], .agg #[], 4⟩] 5) (by kernel_rfl) rfl ((run_insS (kt := 9) (et := 79) (s := ⟨List.toArray [101, 108, 115, 101]⟩) (u := (.agg #[])) rfl rfl rfl rfl Tryd.underlying78 Tryd.underlying9 (hM.obj 0 rfl) (by kernel_rfl)).trans (by kernel_rfl)) fun w hM => ?_
 replace hM := hM.to [.obj b1 (.map #[⟨Str [115, 104, 97, 114, 101, 100], .agg #[], 0⟩, ⟨Str [112, 108, 97, 105, 110], .agg #[], 1⟩, ⟨Str [116, 104, 114, 101, 97, 100], .agg #[], 2⟩, ⟨Str [105, 102], .agg #[], 3⟩, ⟨Str [101, 108, 115, 101], .agg #[], 4⟩] 5)] (by kernel_rfl)
 refine stepP hK 7 (.agg #[]) (by kernel_rfl) (by kernel_rfl) fun a hK => ?_
 refine stepSetObj hK hM 0 (.map #[⟨Str [115, 104, 97, 114, 101, 100], .agg #[], 0⟩, ⟨Str [112, 108, 97, 105, 110], .agg #[], 1⟩, ⟨Str [116, 104, 114, 101, 97, 100], .agg #[], 2⟩, ⟨Str [105, 102], .agg #[], 3⟩, ⟨Str [101, 108, 115, 101], .agg #[], 4⟩, ⟨Str [119, 104, 105, 108, 101], .agg #[], 5⟩] 6) (by kernel_rfl) rfl ((run_insS (kt := 9) (et := 79) (s := ⟨List.toArray [119, 104, 105, 108, 101]⟩) (u := (.agg #[])) rfl rfl rfl rfl Tryd.underlying78 Tryd.underlying9 (hM.obj 0 rfl) (by kernel_rfl)).trans (by kernel_rfl)) fun w hM => ?_
 replace hM := hM.to [.obj b1 (.map #[⟨Str [115, 104, 97, 114, 101, 100], .agg #[], 0⟩, ⟨Str [112, 108, 97, 105, 110], .agg #[], 1⟩, ⟨Str [116, 104, 114, 101, 97, 100], .agg #[], 2⟩, ⟨Str [105, 102], .agg #[], 3⟩, ⟨Str [101, 108, 115, 101], .agg #[], 4⟩, ⟨Str [119, 104, 105, 108, 101], .agg #[], 5⟩] 6)] (by kernel_rfl)
 refine stepP hK 8 (.agg #[]) (by kernel_rfl) (by kernel_rfl) fun a hK => ?_
 refine stepSetObj hK hM 0 (.map #[⟨Str [115, 104, 97, 114, 101, 100], .agg #[], 0⟩, ⟨Str [112, 108, 97, 105, 110], .agg #[], 1⟩, ⟨Str [116, 104, 114, 101, 97, 100], .agg #[], 2⟩, ⟨Str [105, 102], .agg #[], 3⟩, ⟨Str [101, 108, 115, 101], .agg #[], 4⟩, ⟨Str [119, 104, 105, 108, 101], .agg #[], 5⟩, ⟨Str [108, 111, 97, 100], .agg #[], 6⟩] 7) (by kernel_rfl) rfl ((run_insS (kt := 9) (et := 79) (s := ⟨List.toArray [108, 111, 97, 100]⟩) (u := (.agg #[])) rfl rfl rfl rfl Tryd.underlying78 Tryd.underlying9 (hM.obj 0 rfl) (by kernel_rfl)).trans (by kernel_rfl)) fun w hM => ?_
 replace hM := hM.to [.obj b1 (.map #[⟨Str [115, 104, 97, 114, 101, 100], .agg #[], 0⟩, ⟨Str [112, 108, 97, 105, 110], .agg #[], 1⟩, ⟨Str [116, 104, 114, 101, 97, 100], .agg #[], 2⟩, ⟨Str [105, 102], .agg #[], 3⟩, ⟨Str [101, 108, 115, 101], .agg #[], 4⟩, ⟨Str [119, 104, 105, 108, 101], .agg #[], 5⟩, ⟨Str [108, 111, 97, 100], .agg #[], 6⟩] 7)] (by kernel_rfl)
 refine stepP hK 9 (.agg #[]) (by kernel_rfl) (by kernel_rfl) fun a hK => ?_
 refine stepSetObj hK hM 0 (.map #[⟨Str [115, 104, 97, 114, 101, 100], .agg #[], 0⟩, ⟨Str [112, 108, 97, 105, 110], .agg #[], 1⟩, ⟨Str [116, 104, 114, 101, 97, 100], .agg #[], 2⟩, ⟨Str [105, 102], .agg #[], 3⟩, ⟨Str [101, 108, 115, 101], .agg #[], 4⟩, ⟨Str [119, 104, 105, 108, 101], .agg #[], 5⟩, ⟨Str [108, 111, 97, 100], .agg #[], 6⟩, ⟨Str [115, 116, 111, 114, 101], .agg #[], 7⟩] 8) (by kernel_rfl) rfl ((run_insS (kt := 9) (et := 79) (s := ⟨List.toArray [115, 116, 111, 114, 101]⟩) (u := (.agg #[])) rfl rfl rfl rfl Tryd.underlying78 Tryd.underlying9 (hM.obj 0 rfl) (by kernel_rfl)).trans (by kernel_rfl)) fun w hM => ?_
 replace hM := hM.to [.obj b1 (.map #[⟨Str [115, 104, 97, 114, 101, 100], .agg #[], 0⟩, ⟨Str [112, 108, 97, 105, 110], .agg #[], 1⟩, ⟨Str [116, 104, 114, 101, 97, 100], .agg #[], 2⟩, ⟨Str [105, 102], .agg #[], 3⟩, ⟨Str [101, 108, 115, 101], .agg #[], 4⟩, ⟨Str [119, 104, 105, 108, 101], .agg #[], 5⟩, ⟨Str [108, 111, 97, 100], .agg #[], 6⟩, ⟨Str [115, 116, 111, 114, 101], .agg #[], 7⟩] 8)] (by kernel_rfl)
 refine stepP hK 10 (.agg #[]) (by kernel_rfl) (by kernel_rfl) fun a hK => ?_
 refine stepSetObj hK hM 0 (.map #[⟨Str [115, 104, 97, 114, 101, 100], .agg #[], 0⟩, ⟨Str [112, 108, 97, 105, 110], .agg #[], 1⟩, ⟨Str [116, 104, 114, 101, 97, 100], .agg #[], 2⟩, ⟨Str [105, 102], .agg #[], 3⟩, ⟨Str [101, 108, 115, 101], .agg #[], 4⟩, ⟨Str [119, 104, 105, 108, 101], .agg #[], 5⟩, ⟨Str [108, 111, 97, 100], .agg #[], 6⟩, ⟨Str [115, 116, 111, 114, 101], .agg #[], 7⟩, ⟨Str [99, 97, 115], .agg #[], 8⟩] 9) (by kernel_rfl) rfl ((run_insS (kt := 9) (et := 79) (s := ⟨List.toArray [99, 97, 115]⟩) (u := (.agg #[])) rfl rfl rfl rfl Tryd.underlying78 Tryd.underlying9 (hM.obj 0 rfl) (by kernel_rfl)).trans (by kernel_rfl)) fun w hM => ?_
 replace hM := hM.to [.obj b1 (.map #[⟨Str [115, 104, 97, 114, 101, 100], .agg #[], 0⟩, ⟨Str [112, 108, 97, 105, 110], .agg #[], 1⟩, ⟨Str [116, 104, 114, 101, 97, 100], .agg #[], 2⟩, ⟨Str [105, 102], .agg #[], 3⟩, ⟨Str [101, 108, 115, 101], .agg #[], 4⟩, ⟨Str [119, 104, 105, 108, 101], .agg #[], 5⟩, ⟨Str [108, 111, 97, 100], .agg #[], 6⟩, ⟨Str [115, 116, 111, 114, 101], .agg #[], 7⟩, ⟨Str [99, 97, 115], .agg #[], 8⟩] 9)] (by kernel_rfl)
 refine stepP hK 11 (.agg #[]) (by kernel_rfl) (by kernel_rfl) fun a hK => ?_
 refine stepSetObj hK hM 0 (.map #[⟨Str [115, 104, 97, 114, 101, 100], .agg #[], 0⟩, ⟨Str [112, 108, 97, 105, 110], .agg #[], 1⟩, ⟨Str [116, 104, 114, 101, 97, 100], .agg #[], 2⟩, ⟨Str [105, 102], .agg #[], 3⟩, ⟨Str [101, 108, 115, 101], .agg #[], 4⟩, ⟨Str [119, 104, 105, 108, 101], .agg #[], 5⟩, ⟨Str [108, 111, 97, 100], .agg #[], 6⟩, ⟨Str [115, 116, 111, 114, 101], .agg #[], 7⟩, ⟨Str [99, 97, 115], .agg #[], 8⟩, ⟨Str [97, 100, 100], .agg #[], 9⟩] 10) (by kernel_rfl) rfl ((run_insS (kt := 9) (et := 79) (s := ⟨List.toArray [97, 100, 100]⟩) (u := (.agg #[])) rfl rfl rfl rfl Tryd.underlying78 Tryd.underlying9 (hM.obj 0 rfl) (by kernel_rfl)).trans (by kernel_rfl)) fun w hM => ?_
 replace hM := hM.to [.obj b1 (.map #[⟨Str [115, 104, 97, 114, 101, 100], .agg #[], 0⟩, ⟨Str [112, 108, 97, 105, 110], .agg #[], 1⟩, ⟨Str [116, 104, 114, 101, 97, 100], .agg #[], 2⟩, ⟨Str [105, 102], .agg #[], 3⟩, ⟨Str [101, 108, 115, 101], .agg #[], 4⟩, ⟨Str [119, 104, 105, 108, 101], .agg #[], 5⟩, ⟨Str [108, 111, 97, 100], .agg #[], 6⟩, ⟨Str [115, 116, 111, 114, 101], .agg #[], 7⟩, ⟨Str [99, 97, 115], .agg #[], 8⟩, ⟨Str [97, 100, 100], .agg #[], 9⟩] 10)] (by kernel_rfl)
 refine stepP hK 12 (.agg #[]) (by kernel_rfl) (by kernel_rfl) fun a hK => ?_
 refine stepSetObj hK hM 0 (.map #[⟨Str [115, 104, 97, 114, 101, 100], .agg #[], 0⟩, ⟨Str [112, 108, 97, 105, 110], .agg #[], 1⟩, ⟨Str [116, 104, 114, 101, 97, 100], .agg #[], 2⟩, ⟨Str [105, 102], .agg #[], 3⟩, ⟨Str [101, 108, 115, 101], .agg #[], 4⟩, ⟨Str [119, 104, 105, 108, 101], .agg #[], 5⟩, ⟨Str [108, 111, 97, 100], .agg #[], 6⟩, ⟨Str [115, 116, 111, 114, 101], .agg #[], 7⟩, ⟨Str [99, 97, 115], .agg #[], 8⟩, ⟨Str [97, 100, 100], .agg #[], 9⟩, ⟨Str [115, 119, 97, 112], .agg #[], 10⟩] 11) (by kernel_rfl) rfl ((run_insS (kt := 9) (et := 79) (s := ⟨List.toArray [115, 119, 97, 112]⟩) (u := (.agg #[])) rfl rfl rfl rfl Tryd.underlying78 Tryd.underlying9 (hM.obj 0 rfl) (by kernel_rfl)).trans (by kernel_rfl)) fun w hM => ?_
 replace hM := hM.to [.obj b1 (.map #[⟨Str [115, 104, 97, 114, 101, 100], .agg #[], 0⟩, ⟨Str [112, 108, 97, 105, 110], .agg #[], 1⟩, ⟨Str [116, 104, 114, 101, 97, 100], .agg #[], 2⟩, ⟨Str [105, 102], .agg #[], 3⟩, ⟨Str [101, 108, 115, 101], .agg #[], 4⟩, ⟨Str [119, 104, 105, 108, 101], .agg #[], 5⟩, ⟨Str [108, 111, 97, 100], .agg #[], 6⟩, ⟨Str [115, 116, 111, 114, 101], .agg #[], 7⟩, ⟨Str [99, 97, 115], .agg #[], 8⟩, ⟨Str [97, 100, 100], .agg #[], 9⟩, ⟨Str [115, 119, 97, 112], .agg #[], 10⟩] 11)] (by kernel_rfl)
 refine stepP hK 13 (.agg #[]) (by kernel_rfl) (by kernel_rfl) fun a hK => ?_
 refine stepSetObj hK hM 0 (.map #[⟨Str [115, 104, 97, 114, 101, 100], .agg #[], 0⟩, ⟨Str [112, 108, 97, 105, 110], .agg #[], 1⟩, ⟨Str [116, 104, 114, 101, 97, 100], .agg #[], 2⟩, ⟨Str [105, 102], .agg #[], 3⟩, ⟨Str [101, 108, 115, 101], .agg #[], 4⟩, ⟨Str [119, 104, 105, 108, 101], .agg #[], 5⟩, ⟨Str [108, 111, 97, 100], .agg #[], 6⟩, ⟨Str [115, 116, 111, 114, 101], .agg #[], 7⟩, ⟨Str [99, 97, 115], .agg #[], 8⟩, ⟨Str [97, 100, 100], .agg #[], 9⟩, ⟨Str [115, 119, 97, 112], .agg #[], 10⟩, ⟨Str [102, 101, 110, 99, 101], .agg #[], 11⟩] 12) (by kernel_rfl) rfl ((run_insS (kt := 9) (et := 79) (s := ⟨List.toArray [102, 101, 110, 99, 101]⟩) (u := (.agg #[])) rfl rfl rfl rfl Tryd.underlying78 Tryd.underlying9 (hM.obj 0 rfl) (by kernel_rfl)).trans (by kernel_rfl)) fun w hM => ?_
 replace hM := hM.to [.obj b1 (.map #[⟨Str [115, 104, 97, 114, 101, 100], .agg #[], 0⟩, ⟨Str [112, 108, 97, 105, 110], .agg #[], 1⟩, ⟨Str [116, 104, 114, 101, 97, 100], .agg #[], 2⟩, ⟨Str [105, 102], .agg #[], 3⟩, ⟨Str [101, 108, 115, 101], .agg #[], 4⟩, ⟨Str [119, 104, 105, 108, 101], .agg #[], 5⟩, ⟨Str [108, 111, 97, 100], .agg #[], 6⟩, ⟨Str [115, 116, 111, 114, 101], .agg #[], 7⟩, ⟨Str [99, 97, 115], .agg #[], 8⟩, ⟨Str [97, 100, 100], .agg #[], 9⟩, ⟨Str [115, 119, 97, 112], .agg #[], 10⟩, ⟨Str [102, 101, 110, 99, 101], .agg #[], 11⟩] 12)] (by kernel_rfl)
 refine stepP hK 14 (.agg #[]) (by kernel_rfl) (by kernel_rfl) fun a hK => ?_
 refine stepSetObj hK hM 0 (.map #[⟨Str [115, 104, 97, 114, 101, 100], .agg #[], 0⟩, ⟨Str [112, 108, 97, 105, 110], .agg #[], 1⟩, ⟨Str [116, 104, 114, 101, 97, 100], .agg #[], 2⟩, ⟨Str [105, 102], .agg #[], 3⟩, ⟨Str [101, 108, 115, 101], .agg #[], 4⟩, ⟨Str [119, 104, 105, 108, 101], .agg #[], 5⟩, ⟨Str [108, 111, 97, 100], .agg #[], 6⟩, ⟨Str [115, 116, 111, 114, 101], .agg #[], 7⟩, ⟨Str [99, 97, 115], .agg #[], 8⟩, ⟨Str [97, 100, 100], .agg #[], 9⟩, ⟨Str [115, 119, 97, 112], .agg #[], 10⟩, ⟨Str [102, 101, 110, 99, 101], .agg #[], 11⟩, ⟨Str [97, 115, 115, 117, 109, 101], .agg #[], 12⟩] 13) (by kernel_rfl) rfl ((run_insS (kt := 9) (et := 79) (s := ⟨List.toArray [97, 115, 115, 117, 109, 101]⟩) (u := (.agg #[])) rfl rfl rfl rfl Tryd.underlying78 Tryd.underlying9 (hM.obj 0 rfl) (by kernel_rfl)).trans (by kernel_rfl)) fun w hM => ?_
 replace hM := hM.to [.obj b1 (.map #[⟨Str [115, 104, 97, 114, 101, 100], .agg #[], 0⟩, ⟨Str [112, 108, 97, 105, 110], .agg #[], 1⟩, ⟨Str [116, 104, 114, 101, 97, 100], .agg #[], 2⟩, ⟨Str [105, 102], .agg #[], 3⟩, ⟨Str [101, 108, 115, 101], .agg #[], 4⟩, ⟨Str [119, 104, 105, 108, 101], .agg #[], 5⟩, ⟨Str [108, 111, 97, 100], .agg #[], 6⟩, ⟨Str [115, 116, 111, 114, 101], .agg #[], 7⟩, ⟨Str [99, 97, 115], .agg #[], 8⟩, ⟨Str [97, 100, 100], .agg #[], 9⟩, ⟨Str [115, 119, 97, 112], .agg #[], 10⟩, ⟨Str [102, 101, 110, 99, 101], .agg #[], 11⟩, ⟨Str [97, 115, 115, 117, 109, 101], .agg #[], 12⟩] 13)] (by kernel_rfl)
 refine stepP hK 15 (.agg #[]) (by kernel_rfl) (by kernel_rfl) fun a hK => ?_
 refine stepSetObj hK hM 0 (.map #[⟨Str [115, 104, 97, 114, 101, 100], .agg #[], 0⟩, ⟨Str [112, 108, 97, 105, 110], .agg #[], 1⟩, ⟨Str [116, 104, 114, 101, 97, 100], .agg #[], 2⟩, ⟨Str [105, 102], .agg #[], 3⟩, ⟨Str [101, 108, 115, 101], .agg #[], 4⟩, ⟨Str [119, 104, 105, 108, 101], .agg #[], 5⟩, ⟨Str [108, 111, 97, 100], .agg #[], 6⟩, ⟨Str [115, 116, 111, 114, 101], .agg #[], 7⟩, ⟨Str [99, 97, 115], .agg #[], 8⟩, ⟨Str [97, 100, 100], .agg #[], 9⟩, ⟨Str [115, 119, 97, 112], .agg #[], 10⟩, ⟨Str [102, 101, 110, 99, 101], .agg #[], 11⟩, ⟨Str [97, 115, 115, 117, 109, 101], .agg #[], 12⟩, ⟨Str [97, 115, 115, 101, 114, 116], .agg #[], 13⟩] 14) (by kernel_rfl) rfl ((run_insS (kt := 9) (et := 79) (s := ⟨List.toArray [97, 115, 115, 101, 114, 116]⟩) (u := (.agg #[])) rfl rfl rfl rfl Tryd.underlying78 Tryd.underlying9 (hM.obj 0 rfl) (by kernel_rfl)).trans (by kernel_rfl)) fun w hM => ?_
 replace hM := hM.to [.obj b1 (.map #[⟨Str [115, 104, 97, 114, 101, 100], .agg #[], 0⟩, ⟨Str [112, 108, 97, 105, 110], .agg #[], 1⟩, ⟨Str [116, 104, 114, 101, 97, 100], .agg #[], 2⟩, ⟨Str [105, 102], .agg #[], 3⟩, ⟨Str [101, 108, 115, 101], .agg #[], 4⟩, ⟨Str [119, 104, 105, 108, 101], .agg #[], 5⟩, ⟨Str [108, 111, 97, 100], .agg #[], 6⟩, ⟨Str [115, 116, 111, 114, 101], .agg #[], 7⟩, ⟨Str [99, 97, 115], .agg #[], 8⟩, ⟨Str [97, 100, 100], .agg #[], 9⟩, ⟨Str [115, 119, 97, 112], .agg #[], 10⟩, ⟨Str [102, 101, 110, 99, 101], .agg #[], 11⟩, ⟨Str [97, 115, 115, 117, 109, 101], .agg #[], 12⟩, ⟨Str [97, 115, 115, 101, 114, 116], .agg #[], 13⟩] 14)] (by kernel_rfl)
 refine stepP hK 16 (.agg #[]) (by kernel_rfl) (by kernel_rfl) fun a hK => ?_
 refine stepSetObj hK hM 0 (.map #[⟨Str [115, 104, 97, 114, 101, 100], .agg #[], 0⟩, ⟨Str [112, 108, 97, 105, 110], .agg #[], 1⟩, ⟨Str [116, 104, 114, 101, 97, 100], .agg #[], 2⟩, ⟨Str [105, 102], .agg #[], 3⟩, ⟨Str [101, 108, 115, 101], .agg #[], 4⟩, ⟨Str [119, 104, 105, 108, 101], .agg #[], 5⟩, ⟨Str [108, 111, 97, 100], .agg #[], 6⟩, ⟨Str [115, 116, 111, 114, 101], .agg #[], 7⟩, ⟨Str [99, 97, 115], .agg #[], 8⟩, ⟨Str [97, 100, 100], .agg #[], 9⟩, ⟨Str [115, 119, 97, 112], .agg #[], 10⟩, ⟨Str [102, 101, 110, 99, 101], .agg #[], 11⟩, ⟨Str [97, 115, 115, 117, 109, 101], .agg #[], 12⟩, ⟨Str [97, 115, 115, 101, 114, 116], .agg #[], 13⟩, ⟨Str [110, 97], .agg #[], 14⟩] 15) (by kernel_rfl) rfl ((run_insS (kt := 9) (et := 79) (s := ⟨List.toArray [110, 97]⟩) (u := (.agg #[])) rfl rfl rfl rfl Tryd.underlying78 Tryd.underlying9 (hM.obj 0 rfl) (by kernel_rfl)).trans (by kernel_rfl)) fun w hM => ?_
 replace hM := hM.to [.obj b1 (.map #[⟨Str [115, 104, 97, 114, 101, 100], .agg #[], 0⟩, ⟨Str [112, 108, 97, 105, 110], .agg #[], 1⟩, ⟨Str [116, 104, 114, 101, 97, 100], .agg #[], 2⟩, ⟨Str [105, 102], .agg #[], 3⟩, ⟨Str [101, 108, 115, 101], .agg #[], 4⟩, ⟨Str [119, 104, 105, 108, 101], .agg #[], 5⟩, ⟨Str [108, 111, 97, 100], .agg #[], 6⟩, ⟨Str [115, 116, 111, 114, 101], .agg #[], 7⟩, ⟨Str [99, 97, 115], .agg #[], 8⟩, ⟨Str [97, 100, 100], .agg #[], 9⟩, ⟨Str [115, 119, 97, 112], .agg #[], 10⟩, ⟨Str [102, 101, 110, 99, 101], .agg #[], 11⟩, ⟨Str [97, 115, 115, 117, 109, 101], .agg #[], 12⟩, ⟨Str [97, 115, 115, 101, 114, 116], .agg #[], 13⟩, ⟨Str [110, 97], .agg #[], 14⟩] 15)] (by kernel_rfl)
 refine stepP hK 17 (.agg #[]) (by kernel_rfl) (by kernel_rfl) fun a hK => ?_
 refine stepSetObj hK hM 0 (.map #[⟨Str [115, 104, 97, 114, 101, 100], .agg #[], 0⟩, ⟨Str [112, 108, 97, 105, 110], .agg #[], 1⟩, ⟨Str [116, 104, 114, 101, 97, 100], .agg #[], 2⟩, ⟨Str [105, 102], .agg #[], 3⟩, ⟨Str [101, 108, 115, 101], .agg #[], 4⟩, ⟨Str [119, 104, 105, 108, 101], .agg #[], 5⟩, ⟨Str [108, 111, 97, 100], .agg #[], 6⟩, ⟨Str [115, 116, 111, 114, 101], .agg #[], 7⟩, ⟨Str [99, 97, 115], .agg #[], 8⟩, ⟨Str [97, 100, 100], .agg #[], 9⟩, ⟨Str [115, 119, 97, 112], .agg #[], 10⟩, ⟨Str [102, 101, 110, 99, 101], .agg #[], 11⟩, ⟨Str [97, 115, 115, 117, 109, 101], .agg #[], 12⟩, ⟨Str [97, 115, 115, 101, 114, 116], .agg #[], 13⟩, ⟨Str [110, 97], .agg #[], 14⟩, ⟨Str [114, 108, 120], .agg #[], 15⟩] 16) (by kernel_rfl) rfl ((run_insS (kt := 9) (et := 79) (s := ⟨List.toArray [114, 108, 120]⟩) (u := (.agg #[])) rfl rfl rfl rfl Tryd.underlying78 Tryd.underlying9 (hM.obj 0 rfl) (by kernel_rfl)).trans (by kernel_rfl)) fun w hM => ?_
 replace hM := hM.to [.obj b1 (.map #[⟨Str [115, 104, 97, 114, 101, 100], .agg #[], 0⟩, ⟨Str [112, 108, 97, 105, 110], .agg #[], 1⟩, ⟨Str [116, 104, 114, 101, 97, 100], .agg #[], 2⟩, ⟨Str [105, 102], .agg #[], 3⟩, ⟨Str [101, 108, 115, 101], .agg #[], 4⟩, ⟨Str [119, 104, 105, 108, 101], .agg #[], 5⟩, ⟨Str [108, 111, 97, 100], .agg #[], 6⟩, ⟨Str [115, 116, 111, 114, 101], .agg #[], 7⟩, ⟨Str [99, 97, 115], .agg #[], 8⟩, ⟨Str [97, 100, 100], .agg #[], 9⟩, ⟨Str [115, 119, 97, 112], .agg #[], 10⟩, ⟨Str [102, 101, 110, 99, 101], .agg #[], 11⟩, ⟨Str [97, 115, 115, 117, 109, 101], .agg #[], 12⟩, ⟨Str [97, 115, 115, 101, 114, 116], .agg #[], 13⟩, ⟨Str [110, 97], .agg #[], 14⟩, ⟨Str [114, 108, 120], .agg #[], 15⟩] 16)] (by kernel_rfl)
 refine stepP hK 18 (.agg #[]) (by kernel_rfl) (by kernel_rfl) fun a hK => ?_
 refine stepSetObj hK hM 0 (.map #[⟨Str [115, 104, 97, 114, 101, 100], .agg #[], 0⟩, ⟨Str [112, 108, 97, 105, 110], .agg #[], 1⟩, ⟨Str [116, 104, 114, 101, 97, 100], .agg #[], 2⟩, ⟨Str [105, 102], .agg #[], 3⟩, ⟨Str [101, 108, 115, 101], .agg #[], 4⟩, ⟨Str [119, 104, 105, 108, 101], .agg #[], 5⟩, ⟨Str [108, 111, 97, 100], .agg #[], 6⟩, ⟨Str [115, 116, 111, 114, 101], .agg #[], 7⟩, ⟨Str [99, 97, 115], .agg #[], 8⟩, ⟨Str [97, 100, 100], .agg #[], 9⟩, ⟨Str [115, 119, 97, 112], .agg #[], 10⟩, ⟨Str [102, 101, 110, 99, 101], .agg #[], 11⟩, ⟨Str [97, 115, 115, 117, 109, 101], .agg #[], 12⟩, ⟨Str [97, 115, 115, 101, 114, 116], .agg #[], 13⟩, ⟨Str [110, 97], .agg #[], 14⟩, ⟨Str [114, 108, 120], .agg #[], 15⟩, ⟨Str [97, 99, 113], .agg #[], 16⟩] 17) (by kernel_rfl) rfl ((run_insS (kt := 9) (et := 79) (s := ⟨List.toArray [97, 99, 113]⟩) (u := (.agg #[])) rfl rfl rfl rfl Tryd.underlying78 Tryd.underlying9 (hM.obj 0 rfl) (by kernel_rfl)).trans (by kernel_rfl)) fun w hM => ?_
 replace hM := hM.to [.obj b1 (.map #[⟨Str [115, 104, 97, 114, 101, 100], .agg #[], 0⟩, ⟨Str [112, 108, 97, 105, 110], .agg #[], 1⟩, ⟨Str [116, 104, 114, 101, 97, 100], .agg #[], 2⟩, ⟨Str [105, 102], .agg #[], 3⟩, ⟨Str [101, 108, 115, 101], .agg #[], 4⟩, ⟨Str [119, 104, 105, 108, 101], .agg #[], 5⟩, ⟨Str [108, 111, 97, 100], .agg #[], 6⟩, ⟨Str [115, 116, 111, 114, 101], .agg #[], 7⟩, ⟨Str [99, 97, 115], .agg #[], 8⟩, ⟨Str [97, 100, 100], .agg #[], 9⟩, ⟨Str [115, 119, 97, 112], .agg #[], 10⟩, ⟨Str [102, 101, 110, 99, 101], .agg #[], 11⟩, ⟨Str [97, 115, 115, 117, 109, 101], .agg #[], 12⟩, ⟨Str [97, 115, 115, 101, 114, 116], .agg #[], 13⟩, ⟨Str [110, 97], .agg #[], 14⟩, ⟨Str [114, 108, 120], .agg #[], 15⟩, ⟨Str [97, 99, 113], .agg #[], 16⟩] 17)] (by kernel_rfl)
 refine stepP hK 19 (.agg #[]) (by kernel_rfl) (by kernel_rfl) fun a hK => ?_
 refine stepSetObj hK hM 0 (.map #[⟨Str [115, 104, 97, 114, 101, 100], .agg #[], 0⟩, ⟨Str [112, 108, 97, 105, 110], .agg #[], 1⟩, ⟨Str [116, 104, 114, 101, 97, 100], .agg #[], 2⟩, ⟨Str [105, 102], .agg #[], 3⟩, ⟨Str [101, 108, 115, 101], .agg #[], 4⟩, ⟨Str [119, 104, 105, 108, 101], .agg #[], 5⟩, ⟨Str [108, 111, 97, 100], .agg #[], 6⟩, ⟨Str [115, 116, 111, 114, 101], .agg #[], 7⟩, ⟨Str [99, 97, 115], .agg #[], 8⟩, ⟨Str [97, 100, 100], .agg #[], 9⟩, ⟨Str [115, 119, 97, 112], .agg #[], 10⟩, ⟨Str [102, 101, 110, 99, 101], .agg #[], 11⟩, ⟨Str [97, 115, 115, 117, 109, 101], .agg #[], 12⟩, ⟨Str [97, 115, 115, 101, 114, 116], .agg #[], 13⟩, ⟨Str [110, 97], .agg #[], 14⟩, ⟨Str [114, 108, 120], .agg #[], 15⟩, ⟨Str [97, 99, 113], .agg #[], 16⟩, ⟨Str [114, 101, 108], .agg #[], 17⟩] 18) (by kernel_rfl) rfl ((run_insS (kt := 9) (et := 79) (s := ⟨List.toArray [114, 101, 108]⟩) (u := (.agg #[])) rfl rfl rfl rfl Tryd.underlying78 Tryd.underlying9 (hM.obj 0 rfl) (by kernel_rfl)).trans (by kernel_rfl)) fun w hM => ?_
 replace hM := hM.to [.obj b1 (.map #[⟨Str [115, 104, 97, 114, 101, 100], .agg #[], 0⟩, ⟨Str [112, 108, 97, 105, 110], .agg #[], 1⟩, ⟨Str [116, 104, 114, 101, 97, 100], .agg #[], 2⟩, ⟨Str [105, 102], .agg #[], 3⟩, ⟨Str [101, 108, 115, 101], .agg #[], 4⟩, ⟨Str [119, 104, 105, 108, 101], .agg #[], 5⟩, ⟨Str [108, 111, 97, 100], .agg #[], 6⟩, ⟨Str [115, 116, 111, 114, 101], .agg #[], 7⟩, ⟨Str [99, 97, 115], .agg #[], 8⟩, ⟨Str [97, 100, 100], .agg #[], 9⟩, ⟨Str [115, 119, 97, 112], .agg #[], 10⟩, ⟨Str [102, 101, 110, 99, 101], .agg #[], 11⟩, ⟨Str [97, 115, 115, 117, 109, 101], .agg #[], 12⟩, ⟨Str [97, 115, 115, 101, 114, 116], .agg #[], 13⟩, ⟨Str [110, 97], .agg #[], 14⟩, ⟨Str [114, 108, 120], .agg #[], 15⟩, ⟨Str [97, 99, 113], .agg #[], 16⟩, ⟨Str [114, 101, 108], .agg #[], 17⟩] 18)] (by kernel_rfl)
 refine stepP hK 20 (.agg #[]) (by kernel_rfl) (by kernel_rfl) fun a hK => ?_
 refine stepSetObj hK hM 0 (.map #[⟨Str [115, 104, 97, 114, 101, 100], .agg #[], 0⟩, ⟨Str [112, 108, 97, 105, 110], .agg #[], 1⟩, ⟨Str [116, 104, 114, 101, 97, 100], .agg #[], 2⟩, ⟨Str [105, 102], .agg #[], 3⟩, ⟨Str [101, 108, 115, 101], .agg #[], 4⟩, ⟨Str [119, 104, 105, 108, 101], .agg #[], 5⟩, ⟨Str [108, 111, 97, 100], .agg #[], 6⟩, ⟨Str [115, 116, 111, 114, 101], .agg #[], 7⟩, ⟨Str [99, 97, 115], .agg #[], 8⟩, ⟨Str [97, 100, 100], .agg #[], 9⟩, ⟨Str [115, 119, 97, 112], .agg #[], 10⟩, ⟨Str [102, 101, 110, 99, 101], .agg #[], 11⟩, ⟨Str [97, 115, 115, 117, 109, 101], .agg #[], 12⟩, ⟨Str [97, 115, 115, 101, 114, 116], .agg #[], 13⟩, ⟨Str [110, 97], .agg #[], 14⟩, ⟨Str [114, 108, 120], .agg #[], 15⟩, ⟨Str [97, 99, 113], .agg #[], 16⟩, ⟨Str [114, 101, 108], .agg #[], 17⟩, ⟨Str [97, 114], .agg #[], 18⟩] 19) (by kernel_rfl) rfl ((run_insS (kt := 9) (et := 79) (s := ⟨List.toArray [97, 114]⟩) (u := (.agg #[])) rfl rfl rfl rfl Tryd.underlying78 Tryd.underlying9 (hM.obj 0 rfl) (by kernel_rfl)).trans (by kernel_rfl)) fun w hM => ?_
 replace hM := hM.to [.obj b1 (.map #[⟨Str [115, 104, 97, 114, 101, 100], .agg #[], 0⟩, ⟨Str [112, 108, 97, 105, 110], .agg #[], 1⟩, ⟨Str [116, 104, 114, 101, 97, 100], .agg #[], 2⟩, ⟨Str [105, 102], .agg #[], 3⟩, ⟨Str [101, 108, 115, 101], .agg #[], 4⟩, ⟨Str [119, 104, 105, 108, 101], .agg #[], 5⟩, ⟨Str [108, 111, 97, 100], .agg #[], 6⟩, ⟨Str [115, 116, 111, 114, 101], .agg #[], 7⟩, ⟨Str [99, 97, 115], .agg #[], 8⟩, ⟨Str [97, 100, 100], .agg #[], 9⟩, ⟨Str [115, 119, 97, 112], .agg #[], 10⟩, ⟨Str [102, 101, 110, 99, 101], .agg #[], 11⟩, ⟨Str [97, 115, 115, 117, 109, 101], .agg #[], 12⟩, ⟨Str [97, 115, 115, 101, 114, 116], .agg #[], 13⟩, ⟨Str [110, 97], .agg #[], 14⟩, ⟨Str [114, 108, 120], .agg #[], 15⟩, ⟨Str [97, 99, 113], .agg #[], 16⟩, ⟨Str [114, 101, 108], .agg #[], 17⟩, ⟨Str [97, 114], .agg #[], 18⟩] 19)] (by kernel_rfl)
 refine stepP hK 21 (.agg #[]) (by kernel_rfl) (by kernel_rfl) fun a hK => ?_
 refine stepSetObj hK hM 0 (.map #[⟨Str [115, 104, 97, 114, 101, 100], .agg #[], 0⟩, ⟨Str [112, 108, 97, 105, 110], .agg #[], 1⟩, ⟨Str [116, 104, 114, 101, 97, 100], .agg #[], 2⟩, ⟨Str [105, 102], .agg #[], 3⟩, ⟨Str [101, 108, 115, 101], .agg #[], 4⟩, ⟨Str [119, 104, 105, 108, 101], .agg #[], 5⟩, ⟨Str [108, 111, 97, 100], .agg #[], 6⟩, ⟨Str [115, 116, 111, 114, 101], .agg #[], 7⟩, ⟨Str [99, 97, 115], .agg #[], 8⟩, ⟨Str [97, 100, 100], .agg #[], 9⟩, ⟨Str [115, 119, 97, 112], .agg #[], 10⟩, ⟨Str [102, 101, 110, 99, 101], .agg #[], 11⟩, ⟨Str [97, 115, 115, 117, 109, 101], .agg #[], 12⟩, ⟨Str [97, 115, 115, 101, 114, 116], .agg #[], 13⟩, ⟨Str [110, 97], .agg #[], 14⟩, ⟨Str [114, 108, 120], .agg #[], 15⟩, ⟨Str [97, 99, 113], .agg #[], 16⟩, ⟨Str [114, 101, 108], .agg #[], 17⟩, ⟨Str [97, 114], .agg #[], 18⟩, ⟨Str [115, 99], .agg #[], 19⟩] 20) (by kernel_rfl) rfl ((run_insS (kt := 9) (et := 79) (s := ⟨List.toArray [115, 99]⟩) (u := (.agg #[])) rfl rfl rfl rfl Tryd.underlying78 Tryd.underlying9 (hM.obj 0 rfl) (by kernel_rfl)).trans (by kernel_rfl)) fun w hM => ?_
 replace hM := hM.to [.obj b1 (.map #[⟨Str [115, 104, 97, 114, 101, 100], .agg #[], 0⟩, ⟨Str [112, 108, 97, 105, 110], .agg #[], 1⟩, ⟨Str [116, 104, 114, 101, 97, 100], .agg #[], 2⟩, ⟨Str [105, 102], .agg #[], 3⟩, ⟨Str [101, 108, 115, 101], .agg #[], 4⟩, ⟨Str [119, 104, 105, 108, 101], .agg #[], 5⟩, ⟨Str [108, 111, 97, 100], .agg #[], 6⟩, ⟨Str [115, 116, 111, 114, 101], .agg #[], 7⟩, ⟨Str [99, 97, 115], .agg #[], 8⟩, ⟨Str [97, 100, 100], .agg #[], 9⟩, ⟨Str [115, 119, 97, 112], .agg #[], 10⟩, ⟨Str [102, 101, 110, 99, 101], .agg #[], 11⟩, ⟨Str [97, 115, 115, 117, 109, 101], .agg #[], 12⟩, ⟨Str [97, 115, 115, 101, 114, 116], .agg #[], 13⟩, ⟨Str [110, 97], .agg #[], 14⟩, ⟨Str [114, 108, 120], .agg #[], 15⟩, ⟨Str [97, 99, 113], .agg #[], 16⟩, ⟨Str [114, 101, 108], .agg #[], 17⟩, ⟨Str [97, 114], .agg #[], 18⟩, ⟨Str [115, 99], .agg #[], 19⟩] 20)] (by kernel_rfl)
 refine stepM hK 22 1 (by kernel_rfl) (.inl rfl) rfl fun a hK => ?_
 refine stepM hK 0 22 (by kernel_rfl) (.inr rfl) rfl fun a hK => ?_
 refine region_done hK [(0, .map (some b1))] ⟨rfl, trivial⟩ fun a hK => ?_
 refine wp_ret ?_
 replace hM := hM.to [.obj b1 kwObj] (by kernel_rfl)
 exact ret_t hK rfl (u := (.map (some b1))) rfl (⟨b1, rfl, hM, trivial⟩)
theorem en_lex_keywords : Enters Tryd.prog 100 := enters_of Tryd.func100 (by kernel_rfl) rfl
theorem kw_kind_true {l : List UInt8} (h : keyL.contains l = true) : 2 = kindOf l := by unfold kindOf; rw [if_pos (by simpa using h)]
theorem kw_kind_false {l : List UInt8} (h : keyL.contains l = false) : 1 = kindOf l := by unfold kindOf; rw [if_neg (by simpa using h)]
set_option maxRecDepth 100000 in
set_option maxHeartbeats 4000000 in
theorem lex_wordKind (l : List UInt8) (b : Nat) (w0 : World) (hb1 : b < w0.heap.size) (hb2 : w0.heap[b]? = some kwObj) : Calls Tryd.prog 99 #[Str l, .map (some b)] w0 (Ret w0 (.int .i64 ((kindOf l : Nat) : Int))) := by
 refine calls_K (args := [Str l, .map (some b)]) (n := 14) (env := [(0, Str l), (1, .map (some b))]) Tryd.func99 rfl rfl rfl ⟨rfl, rfl, trivial⟩ fun a w hK hM => ?_
 refine wp_seq ?_
 refine region_go (lst := [0]) (by kernel_rfl) ?_
 refine stepP hK 4 (.int .i64 0) (by kernel_rfl) (by kernel_rfl) fun a hK => ?_
 refine region_done hK [(4, .int .i64 0), (0, Str l), (1, .map (some b))] ⟨rfl, rfl, rfl, trivial⟩ fun a hK => ?_
 refine wp_seq ?_
 refine wp_seq ?_
 refine region_go (lst := [0, 1, 2, 3, 4, 5, 6, 7, 8]) (by kernel_rfl) ?_
 refine stepM hK 8 1 (by kernel_rfl) (.inl rfl) rfl fun a hK => ?_
 refine stepM hK 9 0 (by kernel_rfl) (.inl rfl) rfl fun a hK => ?_
 rcases Bool.eq_false_or_eq_true (keyL.contains l) with h1 | h1
 ·obtain ⟨j, hj⟩ := set_yes keyL l 0 h1
  refine stepP hK 10 (.tuple #[.agg #[], .bool true]) (by kernel_rfl) (run_lookS_yes (kt := 9) (et := 79) rfl rfl rfl Tryd.underlying78 Tryd.underlying9 ((hM.below.block _ hb1).trans hb2) hj) fun a hK => ?_
  refine stepM hK 7 10 (by kernel_rfl) (.inl rfl) rfl fun a hK => ?_
  refine stepP hK 11 (.agg #[]) (by kernel_rfl) (by kernel_rfl) fun a hK => ?_
  refine stepP hK 12 (.bool true) (by kernel_rfl) (by kernel_rfl) fun a hK => ?_
  refine stepAlloc hK hM 5 79 [] (fun b => pA b 0) (by kernel_rfl) (by kernel_rfl) fun b2 a w hK hM => ?_
  refine stepStore hK hM 0 [] (by kernel_rfl) rfl rfl rfl rfl (by kernel_rfl) fun w hM => ?_
  replace hM := hM.to [.row b2 79 []] (by kernel_rfl)
  refine stepM hK 6 12 (by kernel_rfl) (.inr rfl) rfl fun a hK => ?_
  refine region_done hK [(6, .bool true), (4, .int .i64 0), (0, Str l), (1, .map (some b))] ⟨rfl, rfl, rfl, rfl, trivial⟩ fun a hK => ?_
  refine wp_seq ?_
  refine region_go (lst := [0]) (by kernel_rfl) ?_
  refine stepM hK 13 6 (by kernel_rfl) (.inl rfl) rfl fun a hK => ?_
  refine region_done hK [(13, .bool true), (6, .bool true), (4, .int .i64 0), (0, Str l), (1, .map (some b))] ⟨rfl, rfl, rfl, rfl, rfl, trivial⟩ fun a hK => ?_
  refine wp_cond_true (hK.get rfl) ?_
  refine wp_seq ?_
  refine region_go (lst := [0]) (by kernel_rfl) ?_
  refine stepP hK 4 (.int .i64 2) (by kernel_rfl) (by kernel_rfl) fun a hK => ?_
  refine region_done hK [(4, .int .i64 2), (13, .bool true), (6, .bool true), (0, Str l), (1, .map (some b))] ⟨rfl, rfl, rfl, rfl, rfl, trivial⟩ fun a hK => ?_
  refine wp_ret ?_
  exact ret_t hK rfl (u := (.int .i64 2)) rfl (⟨congrArg (fun q : Nat => Ending.returned (.int .i64 (q : Int))) (kw_kind_true h1), hM.below⟩)
 ·refine stepP hK 10 (.tuple #[.agg #[], .bool false]) (by kernel_rfl) (run_lookS_no (kt := 9) (et := 79) rfl rfl rfl Tryd.underlying78 Tryd.underlying9 ((hM.below.block _ hb1).trans hb2) (by kernel_rfl) (set_no keyL l 0 h1)) fun a hK => ?_
  refine stepM hK 7 10 (by kernel_rfl) (.inl rfl) rfl fun a hK => ?_
  refine stepP hK 11 (.agg #[]) (by kernel_rfl) (by kernel_rfl) fun a hK => ?_
  refine stepP hK 12 (.bool false) (by kernel_rfl) (by kernel_rfl) fun a hK => ?_
  refine stepAlloc hK hM 5 79 [] (fun b => pA b 0) (by kernel_rfl) (by kernel_rfl) fun b3 a w hK hM => ?_
  refine stepStore hK hM 0 [] (by kernel_rfl) rfl rfl rfl rfl (by kernel_rfl) fun w hM => ?_
  replace hM := hM.to [.row b3 79 []] (by kernel_rfl)
  refine stepM hK 6 12 (by kernel_rfl) (.inr rfl) rfl fun a hK => ?_
  refine region_done hK [(6, .bool false), (4, .int .i64 0), (0, Str l), (1, .map (some b))] ⟨rfl, rfl, rfl, rfl, trivial⟩ fun a hK => ?_
  refine wp_seq ?_
  refine region_go (lst := [0]) (by kernel_rfl) ?_
  refine stepM hK 13 6 (by kernel_rfl) (.inl rfl) rfl fun a hK => ?_
  refine region_done hK [(13, .bool false), (6, .bool false), (4, .int .i64 0), (0, Str l), (1, .map (some b))] ⟨rfl, rfl, rfl, rfl, rfl, trivial⟩ fun a hK => ?_
  refine wp_cond_false (hK.get rfl) ?_
  refine wp_skip ?_
  refine wp_seq ?_
  refine region_go (lst := [0]) (by kernel_rfl) ?_
  refine stepP hK 4 (.int .i64 1) (by kernel_rfl) (by kernel_rfl) fun a hK => ?_
  refine region_done hK [(4, .int .i64 1), (13, .bool false), (6, .bool false), (0, Str l), (1, .map (some b))] ⟨rfl, rfl, rfl, rfl, rfl, trivial⟩ fun a hK => ?_
  refine wp_ret ?_
  exact ret_t hK rfl (u := (.int .i64 1)) rfl (⟨congrArg (fun q : Nat => Ending.returned (.int .i64 (q : Int))) (kw_kind_false h1), hM.below⟩)
theorem en_lex_wordKind : Enters Tryd.prog 99 := enters_of Tryd.func99 (by kernel_rfl) rfl
theorem inWordB_eq : inWordB = wordB := by
 funext c; unfold inWordB wordB
 rw [Bool.or_assoc]; rfl
def wordV (l : List UInt8) : Value := match l with
 | [] => .tuple #[.int .i64 0, .bool false]
 | c :: r => if (isLetter c && (c :: r).all wordB) = true then .tuple #[.int .i64 ((kindOf (c :: r) : Nat) : Int), .bool true] else .tuple #[.int .i64 0, .bool false]
theorem runL_lt (l : List UInt8) : runL inWordB l < l.length ↔ l.all wordB = false := by
 rw [inWordB_eq]; unfold runL
 constructor
 ·intro h
  cases e : l.all wordB with
  | false => rfl
  | true =>
   rw [takeWhile_all (fun j c _ hc => List.all_eq_true.1 e c (List.mem_of_getElem? hc))] at h
   omega
 ·intro h
  have h1 := (List.takeWhile_prefix (p := wordB) (l := l)).length_le
  rcases Nat.lt_or_ge (l.takeWhile wordB).length l.length with h2 | h2
  ·exact h2
  ·have : l.takeWhile wordB = l := (List.takeWhile_prefix _).eq_of_length (by omega)
   have h3 := List.all_takeWhile (p := wordB) (l := l)
   rw [this, h] at h3; cases h3
section
variable {l : List UInt8} {c : UInt8}
theorem wordV_no1 (hc : l[0]? = some c) (h : isLetter c = false) : wordV l = .tuple #[.int .i64 0, .bool false] := by
 cases l with
 | nil => cases hc
 | cons a r => obtain rfl := Option.some.inj hc; unfold wordV; simp only; rw [h, Bool.false_and, if_neg (by decide)]
theorem wordV_no2 (hc : l[0]? = some c) (h : runL inWordB l < l.length) : wordV l = .tuple #[.int .i64 0, .bool false] := by
 cases l with
 | nil => cases hc
 | cons a r => unfold wordV; simp only; rw [(runL_lt _).1 h, Bool.and_false, if_neg (by decide)]
theorem wordV_yes (hc : l[0]? = some c) (h : isLetter c = true) (h2 : ¬ runL inWordB l < l.length) : wordV l = .tuple #[.int .i64 ((kindOf l : Nat) : Int), .bool true] := by
 cases l with
 | nil => cases hc
 | cons a r =>
  obtain rfl := Option.some.inj hc
  have e : (a :: r).all wordB = true := by
   rcases Bool.eq_false_or_eq_true ((a :: r).all wordB) with h' | h'
   ·exact h'
   ·exact absurd ((runL_lt _).2 h') h2
  unfold wordV; simp only; rw [h, e, if_pos (by decide)]
end
set_option maxRecDepth 100000 in
set_option maxHeartbeats 4000000 in
theorem lex_Word (l : List UInt8) (hlen : l.length ≤ 4611686018427387904) (w0 : World) : Calls Tryd.prog 84 #[Str l] w0 (Ret w0 (wordV l)) := by
 refine calls_K (args := [Str l]) (n := 22) (env := [(0, Str l)]) Tryd.func84 rfl rfl rfl ⟨rfl, trivial⟩ fun a w hK hM => ?_
 refine wp_seq ?_
 refine region_go (lst := [0, 1]) (by kernel_rfl) ?_
 refine stepP hK 2 (.int .i64 0) (by kernel_rfl) (by kernel_rfl) fun a hK => ?_
 refine stepP hK 3 (.bool false) (by kernel_rfl) (by kernel_rfl) fun a hK => ?_
 refine region_done hK [(3, .bool false), (2, .int .i64 0), (0, Str l)] ⟨rfl, rfl, rfl, trivial⟩ fun a hK => ?_
 refine wp_seq ?_
 refine wp_seq ?_
 refine region_go (lst := [0, 1, 2, 3, 4, 5, 6, 7, 8, 9, 10, 11, 12, 13, 14]) (by kernel_rfl) ?_
 refine stepM hK 4 0 (by kernel_rfl) (.inl rfl) rfl fun a hK => ?_
 by_cases h1 : l = []
 ·refine stepP hK 5 (.bool true) (by kernel_rfl) (okBool (b := (decide (l = []))) (run_eqS rfl rfl rfl) (decide_eq_true h1)) fun a hK => ?_
  refine stepM hK 6 5 (by kernel_rfl) (.inl rfl) rfl fun a hK => ?_
  refine stepN hK 7 (by kernel_rfl) fun a hK => ?_
  refine stepN hK 8 (by kernel_rfl) fun a hK => ?_
  refine stepN hK 9 (by kernel_rfl) fun a hK => ?_
  refine stepN hK 10 (by kernel_rfl) fun a hK => ?_
  refine stepP hK 11 (.bool true) (by kernel_rfl) (by kernel_rfl) fun a hK => ?_
  refine stepM hK 12 11 (by kernel_rfl) (.inl rfl) rfl fun a hK => ?_
  refine stepN hK 13 (by kernel_rfl) fun a hK => ?_
  refine stepN hK 14 (by kernel_rfl) fun a hK => ?_
  refine stepN hK 15 (by kernel_rfl) fun a hK => ?_
  refine stepN hK 16 (by kernel_rfl) fun a hK => ?_
  refine stepN hK 17 (by kernel_rfl) fun a hK => ?_
  refine stepP hK 18 (.bool true) (by kernel_rfl) (by kernel_rfl) fun a hK => ?_
  refine region_done hK [(18, .bool true), (3, .bool false), (2, .int .i64 0), (0, Str l)] ⟨rfl, rfl, rfl, rfl, trivial⟩ fun a hK => ?_
  refine wp_cond_true (hK.get rfl) ?_
  refine wp_seq ?_
  refine region_go (lst := [0, 1]) (by kernel_rfl) ?_
  refine stepP hK 2 (.int .i64 0) (by kernel_rfl) (by kernel_rfl) fun a hK => ?_
  refine stepP hK 3 (.bool false) (by kernel_rfl) (by kernel_rfl) fun a hK => ?_
  refine region_done hK [(3, .bool false), (2, .int .i64 0), (18, .bool true), (0, Str l)] ⟨rfl, rfl, rfl, rfl, trivial⟩ fun a hK => ?_
  refine wp_ret ?_
  exact ret_tt hK rfl (u := (.int .i64 0)) (v := (.bool false)) rfl rfl (⟨by rw [h1]; rfl, hM.below⟩)
 ·refine stepP hK 5 (.bool false) (by kernel_rfl) (okBool (b := (decide (l = []))) (run_eqS rfl rfl rfl) (decide_eq_false h1)) fun a hK => ?_
  refine stepM hK 6 5 (by kernel_rfl) (.inl rfl) rfl fun a hK => ?_
  refine stepM hK 7 0 (by kernel_rfl) (.inl rfl) rfl fun a hK => ?_
  obtain ⟨c2, hc2⟩ : ∃ c, l[(0 : Nat)]? = some c := ⟨_, List.getElem?_eq_getElem (by have : l.length ≠ 0 := fun e => h1 (List.eq_nil_of_length_eq_zero e); omega)⟩
  refine stepP hK 8 (.int .u8 ((c2.toNat : Nat) : Int)) (by kernel_rfl) (run_idxS (k := 0) rfl rfl rfl hc2) fun a hK => ?_
  rcases Bool.eq_false_or_eq_true (isLetter c2) with h3 | h3
  ·refine stepRet hK hM 9 #[.int .u8 ((c2.toNat : Nat) : Int)] (.bool true) (by kernel_rfl) (run_callE en_lex_isLetter rfl rfl (by kernel_rfl)) (ret_eq (lex_isLetter c2 _) (congrArg Value.bool h3)) fun a w hK hM => ?_
   refine stepP hK 10 (.bool false) (by kernel_rfl) (by kernel_rfl) fun a hK => ?_
   refine stepP hK 11 (.bool false) (by kernel_rfl) (by kernel_rfl) fun a hK => ?_
   refine stepM hK 12 11 (by kernel_rfl) (.inl rfl) rfl fun a hK => ?_
   refine stepM hK 13 0 (by kernel_rfl) (.inl rfl) rfl fun a hK => ?_
   refine stepRet hK hM 14 #[Str l, .func (.func 98) #[] #[]] (.int .i64 (((runL inWordB l) : Nat) : Int)) (by kernel_rfl) (run_callE en_lex_run rfl rfl (by kernel_rfl)) (lex_run l (by first | omega | (rw [List.length_drop]; omega) | (rw [List.length_take]; omega) | (rw [List.length_take, List.length_drop]; omega)) _ inWordB en_lex_inWord lex_inWord _) fun a w hK hM => ?_
   refine stepM hK 15 0 (by kernel_rfl) (.inl rfl) rfl fun a hK => ?_
   refine stepP hK 16 (.int .i64 ((l.length : Nat) : Int)) (by kernel_rfl) (by kernel_rfl) fun a hK => ?_
   by_cases h4 : ((((runL inWordB l) : Nat) : Int) : Int) < ((l.length : Nat) : Int)
   ·refine stepP hK 17 (.bool true) (by kernel_rfl) (okBool (b := (decide (((((runL inWordB l) : Nat) : Int) : Int) < ((l.length : Nat) : Int)))) (by kernel_rfl) (decide_eq_true h4)) fun a hK => ?_
    refine stepP hK 18 (.bool true) (by kernel_rfl) (by kernel_rfl) fun a hK => ?_
    refine region_done hK [(18, .bool true), (3, .bool false), (2, .int .i64 0), (0, Str l)] ⟨rfl, rfl, rfl, rfl, trivial⟩ fun a hK => ?_
    refine wp_cond_true (hK.get rfl) ?_
    refine wp_seq ?_
    refine region_go (lst := [0, 1]) (by kernel_rfl) ?_
    refine stepP hK 2 (.int .i64 0) (by kernel_rfl) (by kernel_rfl) fun a hK => ?_
    refine stepP hK 3 (.bool false) (by kernel_rfl) (by kernel_rfl) fun a hK => ?_
    refine region_done hK [(3, .bool false), (2, .int .i64 0), (18, .bool true), (0, Str l)] ⟨rfl, rfl, rfl, rfl, trivial⟩ fun a hK => ?_
    refine wp_ret ?_
    exact ret_tt hK rfl (u := (.int .i64 0)) (v := (.bool false)) rfl rfl (⟨by rw [wordV_no2 hc2 (by omega)], hM.below⟩)
   ·refine stepP hK 17 (.bool false) (by kernel_rfl) (okBool (b := (decide (((((runL inWordB l) : Nat) : Int) : Int) < ((l.length : Nat) : Int)))) (by kernel_rfl) (decide_eq_false h4)) fun a hK => ?_
    refine stepP hK 18 (.bool false) (by kernel_rfl) (by kernel_rfl) fun a hK => ?_
    refine region_done hK [(18, .bool false), (3, .bool false), (2, .int .i64 0), (0, Str l)] ⟨rfl, rfl, rfl, rfl, trivial⟩ fun a hK => ?_
    refine wp_cond_false (hK.get rfl) ?_
    refine wp_skip ?_
    refine wp_seq ?_
    refine region_go (lst := [0, 1, 2, 3, 4]) (by kernel_rfl) ?_
    refine stepM hK 19 0 (by kernel_rfl) (.inl rfl) rfl fun a hK => ?_
    refine stepCall hK hM 20 #[] (by kernel_rfl) (run_callE en_lex_keywords rfl rfl (by kernel_rfl)) (lex_keywords _) ?_
    rintro b5 a w - hK hM
    refine stepRet hK hM 21 #[Str l, .map (some b5)] (.int .i64 (((kindOf l) : Nat) : Int)) (by kernel_rfl) (run_callE en_lex_wordKind rfl rfl (by kernel_rfl)) (lex_wordKind l _ _ (hM.objlt 0 rfl) (hM.obj 0 rfl)) fun a w hK hM => ?_
    refine stepM hK 2 21 (by kernel_rfl) (.inr rfl) rfl fun a hK => ?_
    refine stepP hK 3 (.bool true) (by kernel_rfl) (by kernel_rfl) fun a hK => ?_
    refine region_done hK [(3, .bool true), (2, .int .i64 (((kindOf l) : Nat) : Int)), (18, .bool false), (0, Str l)] ⟨rfl, rfl, rfl, rfl, trivial⟩ fun a hK => ?_
    refine wp_ret ?_
    exact ret_tt hK rfl (u := (.int .i64 (((kindOf l) : Nat) : Int))) (v := (.bool true)) rfl rfl (⟨by rw [wordV_yes hc2 h3 (by omega)], hM.below⟩)
  ·refine stepRet hK hM 9 #[.int .u8 ((c2.toNat : Nat) : Int)] (.bool false) (by kernel_rfl) (run_callE en_lex_isLetter rfl rfl (by kernel_rfl)) (ret_eq (lex_isLetter c2 _) (congrArg Value.bool h3)) fun a w hK hM => ?_
   refine stepP hK 10 (.bool true) (by kernel_rfl) (by kernel_rfl) fun a hK => ?_
   refine stepP hK 11 (.bool true) (by kernel_rfl) (by kernel_rfl) fun a hK => ?_
   refine stepM hK 12 11 (by kernel_rfl) (.inl rfl) rfl fun a hK => ?_
   refine stepN hK 13 (by kernel_rfl) fun a hK => ?_
   refine stepN hK 14 (by kernel_rfl) fun a hK => ?_
   refine stepN hK 15 (by kernel_rfl) fun a hK => ?_
   refine stepN hK 16 (by kernel_rfl) fun a hK => ?_
   refine stepN hK 17 (by kernel_rfl) fun a hK => ?_
   refine stepP hK 18 (.bool true) (by kernel_rfl) (by kernel_rfl) fun a hK => ?_
   refine region_done hK [(18, .bool true), (3, .bool false), (2, .int .i64 0), (0, Str l)] ⟨rfl, rfl, rfl, rfl, trivial⟩ fun a hK => ?_
   refine wp_cond_true (hK.get rfl) ?_
   refine wp_seq ?_
   refine region_go (lst := [0, 1]) (by kernel_rfl) ?_
   refine stepP hK 2 (.int .i64 0) (by kernel_rfl) (by kernel_rfl) fun a hK => ?_
   refine stepP hK 3 (.bool false) (by kernel_rfl) (by kernel_rfl) fun a hK => ?_
   refine region_done hK [(3, .bool false), (2, .int .i64 0), (18, .bool true), (0, Str l)] ⟨rfl, rfl, rfl, rfl, trivial⟩ fun a hK => ?_
   refine wp_ret ?_
   exact ret_tt hK rfl (u := (.int .i64 0)) (v := (.bool false)) rfl rfl (⟨by rw [wordV_no1 hc2 h3], hM.below⟩)
theorem en_lex_Word : Enters Tryd.prog 84 := enters_of Tryd.func84 (by kernel_rfl) rfl
theorem wordV_eq (l : List UInt8) : wordV l = .tuple #[.int .i64 (((wordOf l).1 : Nat) : Int), .bool (wordOf l).2] := by
 cases l with
 | nil => rfl
 | cons c r =>
  have h : (isLetter c && (c :: r).all wordB) = !((List.range (c :: r).length).any (fun i => badAt i ((c :: r).getD i 0)) || (c :: r).isEmpty) := by
   rw [List.isEmpty_cons, Bool.or_false, Bool.eq_iff_iff]
   constructor
   ·intro h
    rw [Bool.and_eq_true, List.all_eq_true] at h
    rw [Bool.not_eq_true', List.any_eq_false]
    intro i hi
    have hlt : i < (c :: r).length := by simpa using hi
    have hm := h.2 ((c :: r)[i]) (List.getElem_mem hlt)
    rw [show (c :: r).getD i 0 = (c :: r)[i] by rw [List.getD_eq_getElem?_getD, List.getElem?_eq_getElem hlt]; rfl]
    unfold badAt
    cases i with
    | zero => rw [show ((c :: r)[0]'hlt) = c from rfl, h.1]; simp
    | succ i =>
     unfold wordB at hm
     simp only [Bool.or_eq_true] at hm
     generalize (c :: r)[i + 1] = x at hm
     rcases hm with hm | hm | hm
     ·simp [hm]
     ·simp [hm]; intros; omega
     ·simp at hm; simp [hm]; intros; omega
   ·intro h
    rw [Bool.not_eq_true', List.any_eq_false] at h
    rw [Bool.and_eq_true, List.all_eq_true]
    have h0 := h 0 (by simp)
    unfold badAt at h0
    refine ⟨by simpa using h0, fun d hd => ?_⟩
    obtain ⟨i, hi, rfl⟩ := List.getElem_of_mem hd
    have hb := h i (by simpa using hi)
    rw [show (c :: r).getD i 0 = (c :: r)[i] by rw [List.getD_eq_getElem?_getD, List.getElem?_eq_getElem hi]; rfl] at hb
    unfold badAt at hb
    unfold wordB
    cases hl : isLetter (c :: r)[i] with
    | true => rfl
    | false =>
     rw [hl] at hb
     simp at hb ⊢
     cases hd2 : isDigit (c :: r)[i] with
     | true => exact .inl rfl
     | false => exact .inr (hb.2 hd2)
  unfold wordV wordOf
  simp only
  rw [h]
  cases ((List.range (c :: r).length).any (fun i => badAt i ((c :: r).getD i 0)) || (c :: r).isEmpty) with
  | true => rfl
  | false => rfl
end Go.Proofs.YtiigncmpbkfhmaaDoor
namespace Go.Proofs.YtiigncmpbkfhmaaDoor
open Go Go.RowKit
def isWd (l : List UInt8) : Bool := (wordOf l).2 && decide ((((wordOf l).1 : Nat) : Int) = 1)
def exBad (e : Ex) : Bool := !(decide ((kidsI e.op : Int) = ((e.ks.length : Nat) : Int))) || (decide ((e.op : Int) = 2) != isWd e.nm) || (!(decide ((e.op : Int) = 2)) && !(decide (e.nm = []))) || decide ((e.num : Int) < 0) || (!(decide ((e.op : Int) = 1)) && !(decide ((e.num : Int) = 0)))
mutual
def Ex.ok : Ex → Bool
  | .mk o n m A c ks => !(exBad (.mk o n m A c ks)) && exsOk ks
def exsOk : List Ex → Bool
  | [] => true
  | x :: r => x.ok && exsOk r
end
theorem ex_ok (e : Ex) : e.ok = (!(exBad e) && exsOk e.ks) := by cases e; rw [Ex.ok]; rfl
def ptIs (k : Int) : Bool := decide ((1 : Int) ≤ k) && decide (k ≤ 11)
def ptNm (k : Int) : Bool := k == 1 || k == 2 || k == 4 || k == 5 || k == 6
def ptLc (k : Int) : Bool := k == 2 || k == 3 || k == 4 || k == 5 || k == 6
def ptOr (k : Int) : Bool := k == 2 || k == 3 || k == 4 || k == 5 || k == 6 || k == 7
def ptEx (k : Int) : Int := if k = 4 then 2 else if k = 2 ∨ k = 7 then 0 else if 1 ≤ k ∧ k ≤ 11 then 1 else 0
def ptTh (k : Int) : Bool := k == 10 || k == 11
def ptEl (k : Int) : Bool := k == 10
def smBad1 (s : Sm) : Bool := !(ptIs s.kind) || (ptNm s.kind != isWd s.nm) || (!(ptNm s.kind) && !(decide (s.nm = []))) || (ptLc s.kind != isWd s.loc) || (!(ptLc s.kind) && !(decide (s.loc = []))) || !(decide ((((s.es.length : Nat) : Int) : Int) = ptEx s.kind)) || (!(ptTh s.kind) && decide ((0 : Int) < ((s.th.length : Nat) : Int))) || (!(ptEl s.kind) && decide ((0 : Int) < ((s.el.length : Nat) : Int)))
def smBad2 (s : Sm) : Bool := (ptOr s.kind && (decide ((s.ord : Int) < 1) || decide ((6 : Int) < s.ord))) || (!(ptOr s.kind) && !(decide ((s.ord : Int) = 0)))
mutual
def Sm.ok : Sm → Bool
  | .mk k n l o A1 c1 es A2 c2 th A3 c3 el => !(smBad1 (.mk k n l o A1 c1 es A2 c2 th A3 c3 el)) && !(smBad2 (.mk k n l o A1 c1 es A2 c2 th A3 c3 el)) && smsOk th && smsOk el && exsOk es
def smsOk : List Sm → Bool
  | [] => true
  | x :: r => x.ok && smsOk r
end
theorem sm_ok (s : Sm) : s.ok = (!(smBad1 s) && !(smBad2 s) && smsOk s.th && smsOk s.el && exsOk s.es) := by cases s; rw [Sm.ok]; rfl
def dcOk (d : Dc) : Bool := isWd d.nm && !(decide ((d.val : Int) < 0))
def dcsOk (l : List Dc) : Bool := l.all dcOk
def thsOk (l : List Th) : Bool := l.all fun t => smsOk t.l
theorem dcsOk_step {ks : List Dc} {i : Nat} {x : Dc} (h : ks[i]? = some x) : dcsOk (ks.drop i) = (dcOk x && dcsOk (ks.drop (i + 1))) := by
  obtain ⟨hi, rfl⟩ := List.getElem?_eq_some_iff.1 h
  rw [List.drop_eq_getElem_cons hi]; rfl
theorem dcsOk_end {ks : List Dc} {i : Nat} (h : ks.length ≤ i) : dcsOk (ks.drop i) = true := by rw [List.drop_of_length_le h]; rfl
def chkP (p : Pg) : Int := if (decide ((2000 : Int) < ((thsSz p.ts : Nat) : Int)) || decide ((32 : Int) < ((thsDp p.ts : Nat) : Int))) = true then 3 else if dcsOk p.ds = true then (if thsOk p.ts = true then 0 else 2) else 2
def chkE (e : Ex) : Int := if (decide ((2000 : Int) < ((e.sz : Nat) : Int)) || decide ((32 : Int) < ((e.dp : Nat) : Int))) = true then 3 else if e.ok = true then 0 else 2
end Go.Proofs.YtiigncmpbkfhmaaDoor
namespace Go.Proofs.YtiigncmpbkfhmaaDoor
open Go Go.RowKit
def sizeD (_d : Nat) (n : Nat) : Bool × Nat := (true, n + 1)
def deepD (d : Nat) (n : Nat) : Bool × Nat := (true, max n d)
def limD (d : Nat) (n : Nat) : Bool × Nat := (decide ((((n + 1 : Nat) : Int) : Int) ≤ 2000) && decide ((((d : Nat) : Int) : Int) ≤ 32), n + 1)
def mayE (e : Ex) (_d : Nat) (_u : Unit) : Bool × Unit := (!(exBad e), ())
def mayS (s : Sm) (_d : Nat) (_u : Unit) : Bool × Unit := (!(smBad1 s) && !(smBad2 s), ())
def okN (k n : Nat) : Prop := n + k ≤ 1000000
def okU {σ : Type} (_k : Nat) (_n : σ) : Prop := True
theorem size_ex (e : Ex) : ∀ d n, e.wk (fun _ => sizeD) d n = (true, n + e.sz) := by
  induction e using Ex.rec_on with
  | h e ih =>
    intro d n
    rw [ex_wk, sz_eq]
    show andW (true, n + 1) _ = _
    rw [andW_t]
    have key : ∀ (l : List Ex) (d n : Nat), (∀ x ∈ l, ∀ d n, x.wk (fun _ => sizeD) d n = (true, n + x.sz)) → exsWk (fun _ => sizeD) l d n = (true, n + exsSz l) := by
      intro l
      induction l with
      | nil => intro d n _; rw [exsWk, exsSz]; rfl
      | cons x r ih2 =>
        intro d n hx
        rw [exsWk, hx x List.mem_cons_self, andW_t, ih2 _ _ (fun y hy => hx y (List.mem_cons_of_mem _ hy)), exsSz, Nat.add_assoc]
    rw [key e.ks _ _ ih, show n + 1 + exsSz e.ks = n + (exsSz e.ks + 1) by omega]
theorem size_exs (l : List Ex) (d n : Nat) : exsWk (fun _ => sizeD) l d n = (true, n + exsSz l) := by
  induction l generalizing n with
  | nil => rw [exsWk, exsSz]; rfl
  | cons x r ih => rw [exsWk, size_ex, andW_t, ih, exsSz, Nat.add_assoc]
theorem size_sms (l : List Sm) : ∀ d n, smsWk (fun _ => sizeD) (fun _ => sizeD) l d n = (true, n + smsSz l) := by
  induction l using sms_rec with
  | h l ih =>
    induction l with
    | nil => intro d n; rw [smsWk, smsSz]; rfl
    | cons y r ih2 =>
      intro d n
      obtain ⟨h1, h2⟩ := ih y List.mem_cons_self
      rw [smsWk, sm_wk]
      show andW (andW (true, n + 1) _) _ = _
      rw [andW_t, walkW_go (size_exs _ _ _), h1, andW_t, h2, andW_t, ih2 (fun s hs => ih s (List.mem_cons_of_mem _ hs)), smsSz, sm_sz]
      exact congrArg (Prod.mk true) (by omega)
theorem size_ths (l : List Th) (n : Nat) : thsWk (fun _ => sizeD) (fun _ => sizeD) l n = (true, n + thsSz l) := by
  induction l generalizing n with
  | nil => rw [thsWk]; rfl
  | cons t r ih =>
    rw [thsWk, size_sms, andW_t, ih]
    have h2 : thsSz (t :: r) = smsSz t.l + thsSz r := by unfold thsSz; simp
    rw [h2, Nat.add_assoc]
theorem deep_ex (e : Ex) : ∀ d n, d ≤ n + 1 → 1 ≤ d → e.wk (fun _ => deepD) d n = (true, max n (d - 1 + e.dp)) := by
  induction e using Ex.rec_on with
  | h e ih =>
    intro d n hd hd1
    rw [ex_wk, dp_eq]
    show andW (true, max n d) _ = _
    rw [andW_t]
    have key : ∀ (l : List Ex) (d n : Nat), (∀ x ∈ l, ∀ d n, d ≤ n + 1 → 1 ≤ d → x.wk (fun _ => deepD) d n = (true, max n (d - 1 + x.dp))) → d ≤ n + 1 → 1 ≤ d → exsWk (fun _ => deepD) l d n = (true, max n (d - 1 + exsDp l)) := by
      intro l
      induction l with
      | nil => intro d n _ h1 h2; rw [exsWk, exsDp]; exact congrArg (Prod.mk true) (by omega)
      | cons x r ih2 =>
        intro d n hx h1 h2
        rw [exsWk, hx x List.mem_cons_self _ _ h1 h2, andW_t, ih2 _ _ (fun y hy => hx y (List.mem_cons_of_mem _ hy)) (by omega) h2, exsDp]
        exact congrArg (Prod.mk true) (by omega)
    rw [key e.ks _ _ ih (by omega) (by omega)]
    exact congrArg (Prod.mk true) (by omega)
theorem deep_exs (l : List Ex) (d n : Nat) (h1 : d ≤ n + 1) (h2 : 1 ≤ d) : exsWk (fun _ => deepD) l d n = (true, max n (d - 1 + exsDp l)) := by
  induction l generalizing n with
  | nil => rw [exsWk, exsDp]; exact congrArg (Prod.mk true) (by omega)
  | cons x r ih => rw [exsWk, deep_ex x _ _ h1 h2, andW_t, ih _ (by omega), exsDp]; exact congrArg (Prod.mk true) (by omega)
theorem deep_sms (l : List Sm) : ∀ d n, d ≤ n + 1 → 1 ≤ d → smsWk (fun _ => deepD) (fun _ => deepD) l d n = (true, max n (d - 1 + smsDp l)) := by
  induction l using sms_rec with
  | h l ih =>
    induction l with
    | nil => intro d n h1 h2; rw [smsWk, smsDp]; exact congrArg (Prod.mk true) (by omega)
    | cons y r ih2 =>
      intro d n hd hd1
      obtain ⟨h1, h2⟩ := ih y List.mem_cons_self
      rw [smsWk, sm_wk]
      show andW (andW (true, max n d) _) _ = _
      rw [andW_t, walkW_go (deep_exs _ _ _ (by omega) (by omega)), h1 _ _ (by omega) (by omega), andW_t, h2 _ _ (by omega) (by omega), andW_t, ih2 (fun s hs => ih s (List.mem_cons_of_mem _ hs)) _ _ (by omega) hd1, smsDp, sm_dp]
      exact congrArg (Prod.mk true) (by omega)
theorem deep_ths (l : List Th) (n : Nat) : thsWk (fun _ => deepD) (fun _ => deepD) l n = (true, max n (thsDp l)) := by
  induction l generalizing n with
  | nil => rw [thsWk, thsDp, Nat.max_zero]
  | cons t r ih => rw [thsWk, deep_sms _ _ _ (by omega) (by omega), andW_t, ih, thsDp]; exact congrArg (Prod.mk true) (by omega)
def inLim (r : Bool × Nat) (sz dp d n : Nat) : Prop := (r.1 = true ↔ n + sz ≤ 2000 ∧ d + dp ≤ 33) ∧ (r.1 = true → r.2 = n + sz)
theorem inLim_seq {r : Bool × Nat} {k : Nat → Bool × Nat} {z1 p1 z2 p2 d n : Nat} (h1 : inLim r z1 p1 d n) (h2 : n + z1 ≤ 2000 → inLim (k (n + z1)) z2 p2 d (n + z1)) : inLim (andW r k) (z1 + z2) (max p1 p2) d n := by
  obtain ⟨b, s⟩ := r
  obtain ⟨h3, h4⟩ := h1
  cases b with
  | false =>
    rw [andW_f]
    refine ⟨⟨fun h => (by cases h), fun h => ?_⟩, fun h => (by cases h)⟩
    exact h3.2 ⟨by omega, by omega⟩
  | true =>
    have e : s = n + z1 := h4 rfl
    have g := h3.1 rfl
    subst e
    rw [andW_t]
    obtain ⟨h5, h6⟩ := h2 g.1
    exact ⟨⟨fun h => by have := h5.1 h; omega, fun h => h5.2 (by omega)⟩, fun h => by rw [h6 h]; omega⟩
theorem inLim_nil {d n : Nat} (h1 : n ≤ 2000) (h2 : d ≤ 33) : inLim (true, n) 0 0 d n := ⟨⟨fun _ => ⟨by omega, by omega⟩, fun _ => rfl⟩, fun _ => rfl⟩
theorem inLim_node {k : Nat → Bool × Nat} {z p d n : Nat} (h : n + 1 ≤ 2000 → d + 1 ≤ 33 → inLim (k (n + 1)) z p (d + 1) (n + 1)) : inLim (andW (limD d n) k) (z + 1) (p + 1) d n := by
  unfold limD
  by_cases hn : n + 1 ≤ 2000
  · by_cases hd : d ≤ 32
    · rw [decide_eq_true (show ((n + 1 : Nat) : Int) ≤ 2000 by omega), decide_eq_true (show ((d : Nat) : Int) ≤ 32 by omega)]
      show inLim (andW (true, n + 1) k) _ _ _ _
      rw [andW_t]
      obtain ⟨h5, h6⟩ := h hn (by omega)
      exact ⟨⟨fun h => by have := h5.1 h; omega, fun h => h5.2 (by omega)⟩, fun h => by rw [h6 h]; omega⟩
    · rw [decide_eq_false (show ¬ ((d : Nat) : Int) ≤ 32 by omega), Bool.and_false]
      rw [andW_f]
      exact ⟨⟨fun h => (by cases h), fun h => (by omega)⟩, fun h => (by cases h)⟩
  · rw [decide_eq_false (show ¬ ((n + 1 : Nat) : Int) ≤ 2000 by omega), Bool.false_and]
    rw [andW_f]
    exact ⟨⟨fun h => (by cases h), fun h => (by omega)⟩, fun h => (by cases h)⟩
theorem lim_exs_of (l : List Ex) (h : ∀ x ∈ l, ∀ d n, inLim (x.wk (fun _ => limD) d n) x.sz x.dp d n) (d n : Nat) (hn : n ≤ 2000) (hd : d ≤ 33) : inLim (exsWk (fun _ => limD) l d n) (exsSz l) (exsDp l) d n := by
  induction l generalizing n with
  | nil => rw [exsWk, exsSz, exsDp]; exact inLim_nil hn hd
  | cons x r ih =>
    rw [exsWk, exsSz, exsDp]
    exact inLim_seq (h x List.mem_cons_self d n) fun h2 => ih (fun y hy => h y (List.mem_cons_of_mem _ hy)) _ h2
theorem lim_ex (e : Ex) : ∀ d n, inLim (e.wk (fun _ => limD) d n) e.sz e.dp d n := by
  induction e using Ex.rec_on with
  | h e ih =>
    intro d n
    rw [ex_wk, sz_eq, dp_eq]
    exact inLim_node fun h1 h2 => lim_exs_of e.ks ih _ _ h1 h2
theorem lim_exs (l : List Ex) (d n : Nat) (hn : n ≤ 2000) (hd : d ≤ 33) : inLim (exsWk (fun _ => limD) l d n) (exsSz l) (exsDp l) d n := lim_exs_of l (fun x _ => lim_ex x) d n hn hd
theorem lim_sms (l : List Sm) : ∀ d n, n ≤ 2000 → d ≤ 33 → inLim (smsWk (fun _ => limD) (fun _ => limD) l d n) (smsSz l) (smsDp l) d n := by
  induction l using sms_rec with
  | h l ih =>
    induction l with
    | nil => intro d n hn hd; rw [smsWk, smsSz, smsDp]; exact inLim_nil hn hd
    | cons y r ih2 =>
      intro d n hn hd
      obtain ⟨h1, h2⟩ := ih y List.mem_cons_self
      rw [smsWk, smsSz, smsDp]
      refine inLim_seq ?_ fun h3 => ih2 (fun s hs => ih s (List.mem_cons_of_mem _ hs)) _ _ h3 hd
      rw [sm_wk, sm_sz, sm_dp]
      rw [show max (max (smsDp y.th) (smsDp y.el)) (exsDp y.es) = max (max (exsDp y.es) (smsDp y.th)) (smsDp y.el) by omega]
      refine inLim_node fun h4 h5 => ?_
      refine inLim_seq ?_ fun h6 => h2 _ _ h6 h5
      unfold walkW
      exact inLim_seq (lim_exs _ _ _ h4 h5) fun h6 => h1 _ _ h6 h5
theorem lim_ths (l : List Th) : ∀ n, n ≤ 2000 → inLim (thsWk (fun _ => limD) (fun _ => limD) l n) (thsSz l) (thsDp l) 1 n := by
  induction l with
  | nil => intro n hn; rw [thsWk, thsDp]; exact inLim_nil hn (by omega)
  | cons t r ih =>
    intro n hn
    have h2 : thsSz (t :: r) = smsSz t.l + thsSz r := by unfold thsSz; simp
    rw [thsWk, h2, thsDp]
    exact inLim_seq (lim_sms _ _ _ hn (by omega)) fun h3 => ih _ h3
theorem may_exs_of (l : List Ex) (h : ∀ x ∈ l, ∀ d u, x.wk mayE d u = (x.ok, ())) (d : Nat) (u : Unit) : exsWk mayE l d u = (exsOk l, ()) := by
  induction l generalizing u with
  | nil => rw [exsWk, exsOk]
  | cons x r ih =>
    rw [exsWk, h x List.mem_cons_self, exsOk]
    cases x.ok with
    | false => rfl
    | true => rw [andW_t, ih (fun y hy => h y (List.mem_cons_of_mem _ hy))]; rfl
theorem may_ex (e : Ex) : ∀ d u, e.wk mayE d u = (e.ok, ()) := by
  induction e using Ex.rec_on with
  | h e ih =>
    intro d u
    rw [ex_wk, ex_ok]
    unfold mayE
    cases exBad e with
    | true => rfl
    | false => exact may_exs_of e.ks ih _ _
theorem may_exs (l : List Ex) (d : Nat) (u : Unit) : exsWk mayE l d u = (exsOk l, ()) := may_exs_of l (fun x _ => may_ex x) d u
theorem may_sms (l : List Sm) : ∀ d u, smsWk mayE mayS l d u = (smsOk l, ()) := by
  induction l using sms_rec with
  | h l ih =>
    induction l with
    | nil => intro d u; rw [smsWk, smsOk]
    | cons y r ih2 =>
      intro d u
      obtain ⟨h1, h2⟩ := ih y List.mem_cons_self
      have hr := fun d u => ih2 (fun s hs => ih s (List.mem_cons_of_mem _ hs)) d u
      rw [smsWk, smsOk, sm_wk, sm_ok]
      have hy : mayS y d u = (!(smBad1 y) && !(smBad2 y), ()) := rfl
      rw [hy]
      cases h3 : (!(smBad1 y) && !(smBad2 y)) with
      | false => rfl
      | true =>
        rw [andW_t]
        unfold walkW
        rw [may_exs]
        cases exsOk y.es with
        | false => simp [andW]
        | true =>
          rw [andW_t, h1]
          cases smsOk y.th with
          | false => rfl
          | true =>
            rw [andW_t, h2]
            cases smsOk y.el with
            | false => rfl
            | true => rw [andW_t, hr]; rfl
theorem may_ths (l : List Th) (u : Unit) : thsWk mayE mayS l u = (thsOk l, ()) := by
  induction l generalizing u with
  | nil => rw [thsWk]; rfl
  | cons t r ih =>
    rw [thsWk, may_sms]
    have h : thsOk (t :: r) = (smsOk t.l && thsOk r) := rfl
    rw [h]
    cases smsOk t.l with
    | false => rfl
    | true => rw [andW_t, ih]; rfl
structure StepD {σ : Type} (w0 : World) (G : σ → List It) (ok : Nat → σ → Prop) (h : Nat → σ → Bool × σ) (fd : FuncId) (cd : Array Value) : Prop where
  enters : Enters Tryd.prog fd
  call : ∀ (d k : Nat) (s : σ) (F : List It) (w : World), Mem w0 w (G s ++ F) → d ≤ 1000000 → ok (k + 1) s → Calls Tryd.prog fd (#[vN d] ++ cd) w (Gives w0 (fun r : Bool × σ => .bool r.1) (fun r => G r.2 ++ F) fun r => r = h d s)
  ok : ∀ (d k : Nat) (s : σ), ok (k + 1) s → (h d s).1 = true → ok k (h d s).2
end Go.Proofs.YtiigncmpbkfhmaaDoor
namespace Go.Proofs.YtiigncmpbkfhmaaDoor
open Go Go.RowKit
def exN (k : Int) : Bool := decide (k = 1)
def exR (k : Int) : Bool := decide (k = 2)
def tabE : List Value := (List.range 17).flatMap fun k : Nat => [.bool (exN (k : Int)), .bool (exR (k : Int)), .int .i64 (if k = 0 then 0 else kidsI (k : Int))]
def tabS : List Value := (List.range 12).flatMap fun k : Nat => [.bool (ptNm (k : Int)), .bool (ptLc (k : Int)), .bool (ptOr (k : Int)), .int .i64 (ptEx (k : Int)), .bool (ptTh (k : Int)), .bool (ptEl (k : Int))]
structure TabOk (w : World) : Prop where
  e : CellsAt w ⟨0, 0, none⟩ tabE
  s : CellsAt w ⟨1, 0, none⟩ tabS
theorem TabOk.on {w w' : World} (h : TabOk w) (hb : Below w.heap.size w w') : TabOk w' := ⟨h.e.on hb, h.s.on hb⟩
theorem TabOk.exprs {w : World} (h : TabOk w) {op : Int} (h1 : 1 ≤ op) (h2 : op ≤ 16) : CellsAt w ((⟨0, 0, none⟩ : Addr).add (op.toNat * 3)) [.bool (exN op), .bool (exR op), .int .i64 (kidsI op)] := by
  obtain ⟨k, rfl⟩ : ∃ k : Nat, op = k := ⟨op.toNat, by omega⟩
  have hk : k = 1 ∨ k = 2 ∨ k = 3 ∨ k = 4 ∨ k = 5 ∨ k = 6 ∨ k = 7 ∨ k = 8 ∨ k = 9 ∨ k = 10 ∨ k = 11 ∨ k = 12 ∨ k = 13 ∨ k = 14 ∨ k = 15 ∨ k = 16 := by omega
  rcases hk with rfl | rfl | rfl | rfl | rfl | rfl | rfl | rfl | rfl | rfl | rfl | rfl | rfl | rfl | rfl | rfl
  · exact h.e.addA 3 3 (by decide)
  · exact h.e.addA 6 3 (by decide)
  · exact h.e.addA 9 3 (by decide)
  · exact h.e.addA 12 3 (by decide)
  · exact h.e.addA 15 3 (by decide)
  · exact h.e.addA 18 3 (by decide)
  · exact h.e.addA 21 3 (by decide)
  · exact h.e.addA 24 3 (by decide)
  · exact h.e.addA 27 3 (by decide)
  · exact h.e.addA 30 3 (by decide)
  · exact h.e.addA 33 3 (by decide)
  · exact h.e.addA 36 3 (by decide)
  · exact h.e.addA 39 3 (by decide)
  · exact h.e.addA 42 3 (by decide)
  · exact h.e.addA 45 3 (by decide)
  · exact h.e.addA 48 3 (by decide)
theorem TabOk.stmts {w : World} (h : TabOk w) {k : Int} (hk : ptIs k = true) : CellsAt w ((⟨1, 0, none⟩ : Addr).add (k.toNat * 6)) [.bool (ptNm k), .bool (ptLc k), .bool (ptOr k), .int .i64 (ptEx k), .bool (ptTh k), .bool (ptEl k)] := by
  unfold ptIs at hk
  rw [Bool.and_eq_true, decide_eq_true_iff, decide_eq_true_iff] at hk
  obtain ⟨k, rfl⟩ : ∃ j : Nat, k = j := ⟨k.toNat, by omega⟩
  have hk : k = 1 ∨ k = 2 ∨ k = 3 ∨ k = 4 ∨ k = 5 ∨ k = 6 ∨ k = 7 ∨ k = 8 ∨ k = 9 ∨ k = 10 ∨ k = 11 := by omega
  rcases hk with rfl | rfl | rfl | rfl | rfl | rfl | rfl | rfl | rfl | rfl | rfl
  · exact h.s.addA 6 6 (by decide)
  · exact h.s.addA 12 6 (by decide)
  · exact h.s.addA 18 6 (by decide)
  · exact h.s.addA 24 6 (by decide)
  · exact h.s.addA 30 6 (by decide)
  · exact h.s.addA 36 6 (by decide)
  · exact h.s.addA 42 6 (by decide)
  · exact h.s.addA 48 6 (by decide)
  · exact h.s.addA 54 6 (by decide)
  · exact h.s.addA 60 6 (by decide)
  · exact h.s.addA 66 6 (by decide)
theorem run_ixArr {P : Program} {o : Oper} {ρ : Operand → Value} {w : World} {t e : TypeId} {x y : Operand} {a : Addr} {n k s : Nat} {i : Int} (hop : o.op = .indexAddr t x y) (hx : ρ x = .pointer (some a)) (hy : ρ y = .int .i64 i) (hi : i = ((k : Nat) : Int)) (ht : P.underlying t = some (.array n e)) (hs : (P.info? e).map (·.size) = some s) (hk : k < n) : (execOp ρ o).run P w = .ok (.value (.pointer (some (a.add (k * s))))) w := by
  subst hi
  obtain ⟨j, hj, hs⟩ := Option.map_eq_some_iff.1 hs
  simp [execOp, hop, hx, hy, Instr.indexAt, Instr.sureAddr, asIntOf, run_underlying ht, sizeOf, typeInfo, hj, hs, hk]
def numOk (n : Int) (b : Bool) : Bool := if b = true then decide ((0 : Int) ≤ n) else decide ((n : Int) = 0)
def nameOk (l : List UInt8) (b : Bool) : Bool := if b = true then isWd l else decide (l = [])
def ordOk (o : Int) (b : Bool) : Bool := if b = true then (decide ((1 : Int) ≤ o) && decide (o ≤ 6)) else decide ((o : Int) = 0)
theorem isWd_nil : isWd [] = false := by decide
theorem name_bad (l : List UInt8) (b : Bool) : ((b != isWd l) || (!b && !(decide (l = [])))) = !(nameOk l b) := by
  unfold nameOk
  cases b with
  | true => cases isWd l <;> rfl
  | false =>
    by_cases h : l = []
    · subst h; rw [isWd_nil]; rfl
    · rw [decide_eq_false h]; cases isWd l <;> rfl
theorem num_bad (e : Ex) : (decide ((e.num : Int) < 0) || (!(decide ((e.op : Int) = 1)) && !(decide ((e.num : Int) = 0)))) = !(numOk e.num (exN e.op)) := by
  unfold numOk exN
  by_cases h : e.op = 1
  · rw [decide_eq_true h, if_pos rfl]
    by_cases h2 : e.num < 0
    · rw [decide_eq_true h2, decide_eq_false (show ¬ 0 ≤ e.num by omega)]; rfl
    · rw [decide_eq_false h2, decide_eq_true (show 0 ≤ e.num by omega)]; rfl
  · rw [decide_eq_false h, if_neg (by decide)]
    by_cases h2 : e.num = 0
    · rw [decide_eq_true h2, decide_eq_false (show ¬ e.num < 0 by omega)]; rfl
    · rw [decide_eq_false h2]; cases decide (e.num < 0) <;> rfl
theorem ord_bad (s : Sm) : smBad2 s = !(ordOk s.ord (ptOr s.kind)) := by
  unfold smBad2 ordOk
  cases ptOr s.kind with
  | false => rw [if_neg (by decide)]; cases decide (s.ord = 0) <;> rfl
  | true =>
    rw [if_pos rfl]
    by_cases h : s.ord < 1
    · rw [decide_eq_true h, decide_eq_false (show ¬ 1 ≤ s.ord by omega)]; rfl
    · by_cases h2 : 6 < s.ord
      · rw [decide_eq_false h, decide_eq_true h2, decide_eq_true (show 1 ≤ s.ord by omega), decide_eq_false (show ¬ s.ord ≤ 6 by omega)]; rfl
      · rw [decide_eq_false h, decide_eq_false h2, decide_eq_true (show 1 ≤ s.ord by omega), decide_eq_true (show s.ord ≤ 6 by omega)]; rfl
theorem ex_out {e : Ex} (h : e.op < 1 ∨ 16 < e.op) : exBad e = true := by
  unfold exBad kidsI
  rw [decide_eq_false (show ¬ e.op = 1 by omega), decide_eq_false (show ¬ e.op = 2 by omega), decide_eq_false (show ¬ e.op = 3 by omega), decide_eq_false (show ¬ e.op = 4 by omega)]
  have h2 : (decide ((5 : Int) ≤ e.op) && decide (e.op ≤ 16)) = false := by
    rcases h with h | h
    · rw [decide_eq_false (show ¬ 5 ≤ e.op by omega)]; rfl
    · rw [decide_eq_false (show ¬ e.op ≤ 16 by omega), Bool.and_false]
  rw [h2]
  have h3 : decide ((-1 : Int) = ((e.ks.length : Nat) : Int)) = false := decide_eq_false (by omega)
  simp only [Bool.or_self, Bool.false_eq_true, if_false, h3]
  rfl
theorem ex_in (e : Ex) : exBad e = !(numOk e.num (exN e.op) && nameOk e.nm (exR e.op) && decide ((((e.ks.length : Nat) : Int) : Int) = kidsI e.op)) := by
  have h1 := num_bad e
  have h2 := name_bad e.nm (exR e.op)
  have h3 : decide ((kidsI e.op : Int) = ((e.ks.length : Nat) : Int)) = decide ((((e.ks.length : Nat) : Int) : Int) = kidsI e.op) := by
    by_cases h : kidsI e.op = ((e.ks.length : Nat) : Int)
    · rw [decide_eq_true h, decide_eq_true h.symm]
    · rw [decide_eq_false h, decide_eq_false fun h' => h h'.symm]
  unfold exBad
  rw [h3]
  unfold exR at *
  revert h1 h2
  generalize decide ((((e.ks.length : Nat) : Int) : Int) = kidsI e.op) = a1
  generalize decide ((e.op : Int) = 2) = a2
  generalize isWd e.nm = a3
  generalize decide (e.nm = []) = a4
  generalize decide ((e.num : Int) < 0) = a5
  generalize decide ((e.op : Int) = 1) = a6
  generalize decide ((e.num : Int) = 0) = a7
  generalize numOk e.num (exN e.op) = a8
  generalize nameOk e.nm a2 = a9
  revert a1 a2 a3 a4 a5 a6 a7 a8 a9
  decide
theorem sm_out {s : Sm} (h : ptIs s.kind = false) : smBad1 s = true := by unfold smBad1; rw [h]; rfl
theorem len_zero (n : Nat) : decide ((0 : Int) < ((n : Nat) : Int)) = !(decide (((n : Nat) : Int) = 0)) := by
  by_cases h : n = 0
  · subst h; rfl
  · rw [decide_eq_true (show (0 : Int) < ((n : Nat) : Int) by omega), decide_eq_false (show ¬ ((n : Nat) : Int) = 0 by omega)]; rfl
theorem sm_in {s : Sm} (h : ptIs s.kind = true) : (!(smBad1 s) && !(smBad2 s)) = (nameOk s.nm (ptNm s.kind) && nameOk s.loc (ptLc s.kind) && ordOk s.ord (ptOr s.kind) && decide ((((s.es.length : Nat) : Int) : Int) = ptEx s.kind) && (ptTh s.kind || decide ((((s.th.length : Nat) : Int) : Int) = 0)) && (ptEl s.kind || decide ((((s.el.length : Nat) : Int) : Int) = 0))) := by
  rw [ord_bad]
  have h1 := name_bad s.nm (ptNm s.kind)
  have h2 := name_bad s.loc (ptLc s.kind)
  unfold smBad1
  rw [h, len_zero, len_zero]
  generalize ordOk s.ord (ptOr s.kind) = a1
  generalize decide ((((s.es.length : Nat) : Int) : Int) = ptEx s.kind) = a2
  generalize ptTh s.kind = a3
  generalize ptEl s.kind = a4
  generalize decide ((((s.th.length : Nat) : Int) : Int) = 0) = a5
  generalize decide ((((s.el.length : Nat) : Int) : Int) = 0) = a6
  generalize nameOk s.nm (ptNm s.kind) = n1 at *
  generalize nameOk s.loc (ptLc s.kind) = n2 at *
  generalize (ptNm s.kind != isWd s.nm) = b1 at *
  generalize (!(ptNm s.kind) && !(decide (s.nm = []))) = b2 at *
  generalize (ptLc s.kind != isWd s.loc) = b3 at *
  generalize (!(ptLc s.kind) && !(decide (s.loc = []))) = b4 at *
  have e1 : n1 = !(b1 || b2) := by rw [h1, Bool.not_not]
  have e2 : n2 = !(b3 || b4) := by rw [h2, Bool.not_not]
  subst e1 e2
  clear h1 h2 h
  cases b1 <;> cases b2 <;> cases b3 <;> cases b4 <;> cases a1 <;> cases a2 <;> cases a3 <;> cases a4 <;> cases a5 <;> cases a6 <;> rfl
theorem lim_chk {l : List Th} {r : Bool} {q : Nat} (h : (r, q) = thsWk (fun _ d s => limD d s) (fun _ d s => limD d s) l 0) : (decide ((2000 : Int) < ((thsSz l : Nat) : Int)) || decide ((32 : Int) < ((thsDp l : Nat) : Int))) = !r := by
  have h1 := (lim_ths l 0 (by omega)).1
  rw [show thsWk (fun _ => limD) (fun _ => limD) l 0 = (r, q) from h.symm] at h1
  cases r with
  | true =>
    have h2 := h1.1 rfl
    rw [decide_eq_false (show ¬ (2000 : Int) < ((thsSz l : Nat) : Int) by omega), decide_eq_false (show ¬ (32 : Int) < ((thsDp l : Nat) : Int) by omega)]; rfl
  | false =>
    have h2 : ¬ (0 + thsSz l ≤ 2000 ∧ 1 + thsDp l ≤ 33) := fun h => by cases h1.2 h
    by_cases h3 : (2000 : Int) < ((thsSz l : Nat) : Int)
    · rw [decide_eq_true h3]; rfl
    · rw [decide_eq_true (show (32 : Int) < ((thsDp l : Nat) : Int) by omega), Bool.or_true]; rfl
end Go.Proofs.YtiigncmpbkfhmaaDoor
namespace Go.Proofs.YtiigncmpbkfhmaaDoor
open Go Go.ChangeShapes Go.WideShapes Go.ChangeAt Go.RowKit Go.Joins
theorem ownGodebug : ownKnob Tryd.prog.godebug = none := by kernel_rfl
theorem laidOut : laidOutB Tryd.prog = true := by kernel_rfl
section
variable {H : Type} {enc : TypeId × Value → H}
theorem trodAll_stays {W W' : World} {sp : Nat → Bool} : ∀ {ts : List TypeId} {vs : List Value} {ds : List (DataW H)} {ps : List MemPlace}, (ts.all fun t => Tryd.prog.readableRec t && decide (t < Tryd.prog.types.size)) = true →
    DataW.TrodAll enc Tryd.prog W 0 (fun _ => true) true ts vs ds ps → (∀ p ∈ ps, W.sameAt W' p) → (∀ p ∈ ps, sp p.block = true) → DataW.TrodAll enc Tryd.prog W' 0 sp true ts vs ds ps := by
  intro ts
  induction ts with
  | nil =>
    intro vs ds ps _ h _ _
    cases vs with
    | nil => cases ds with
      | nil => exact h
      | cons _ _ => exact h.elim
    | cons _ _ => cases ds <;> exact h.elim
  | cons t ts ih =>
    intro vs ds ps hr h hsame hs
    rw [List.all_cons, Bool.and_eq_true, Bool.and_eq_true, decide_eq_true_iff] at hr
    obtain ⟨v, vs', d, ds', p, p', rfl, rfl, rfl, h0, hr'⟩ := trodAll_cons h
    exact trodAll_cons_mk (WideElems.Trod_stays laidOut hr.1.1 hr.1.2 h0 (fun q hq => hsame q (List.mem_append_left _ hq)) (fun q hq => hs q (List.mem_append_left _ hq)))
      (ih hr.2 hr' (fun q hq => hsame q (List.mem_append_right _ hq)) (fun q hq => hs q (List.mem_append_right _ hq)))
theorem same_of_below {W W' : World} {p : MemPlace} (hb : Below W.heap.size W W') (hp : p.block < W.heap.size) : W.sameAt W' p := by
  cases p with
  | cell b off => exact hb.cell (p := ⟨b, off, none⟩) hp
  | map b => exact hb.block b hp
set_option maxRecDepth 100000 in
theorem law_post {f : Func} {s : ChangeSpec} {W W' : World} {args : Array Value} {ds gs : List (DataW H)} {before : List MemPlace} (hs : s.vars = [])
    (hr : (f.params.toList.all fun t => Tryd.prog.readableRec t && decide (t < Tryd.prog.types.size)) = true) (hres : f.resultTypes = #[4])
    (hfn : s.fn H ds = { results := [.lit (.bool true)], args := ds })
    (hW : DataW.Whole enc Tryd.prog f.params.toList s.vars false W args.toList ds gs before) (hb : Below W.heap.size W W') :
    s.post enc Tryd.prog f false true false false W args (.bool true) W' := by
  have hlt : ∀ p ∈ before, p.block < W.heap.size := fun p hp => hW.lt p hp
  have hold : ∀ p ∈ before, (fun b => decide (b < W.heap.size)) p.block = true := fun p hp => by simpa using hlt p hp
  have hW' := hW
  obtain ⟨pa, pv, hA, hV, hps, hz, hn⟩ := hW'
  rw [hs] at hV
  obtain ⟨rfl, rfl⟩ := trodVars_none hV
  rw [List.append_nil] at hps
  subst hps
  have hfn' : s.fn H (ds ++ []) = { results := [.lit (.bool true)], args := ds } := by rw [List.append_nil]; exact hfn
  have hargs : ∀ sp : Nat → Bool, (∀ p ∈ before, sp p.block = true) → DataW.TrodAll enc Tryd.prog W' 0 sp true f.params.toList args.toList (s.fn H (ds ++ [])).args before := fun sp hsp => by
    rw [hfn']; exact trodAll_stays hr hA (fun p hp => same_of_below hb (hlt p hp)) hsp
  have hresT : ∀ (b : Nat) (sp : Nat → Bool) (hd : Bool), DataW.TrodAll enc Tryd.prog W' b sp hd f.resultTypes.toList ((Value.bool true).resultList f.resultTypes.size) (s.fn H (ds ++ [])).results [] := fun b sp hd => by
    rw [hfn', hres]; exact trodAll_cons_mk (shut_bool Tryd.underlying4 _) trodAll_mk0
  have hvars : ∀ sp : Nat → Bool, (∀ p ∈ before, sp p.block = true) → DataW.TrodVars enc Tryd.prog W' sp s.vars (s.fn H (ds ++ [])).vars [] := fun sp _ => by
    rw [hfn', hs]; rfl
  refine ⟨ds, [], before, [], before, [], hW, hresT _ _ _, hargs _ hold, hvars _ hold, World.keptBut_mono (fun p hp => ⟨hp, Or.inr (Or.inl hp)⟩) (hb.frame (· ∈ before)), fun _ => ?_⟩
  refine ⟨?_, _, _, ([] ++ before) ++ [], ⟨[] ++ before, [], trodAll_append (hargs _ (fun _ _ => rfl)) (hresT _ _ _), hvars _ (fun _ _ => rfl), rfl, ?_, ?_⟩, ?_⟩
  · exact ok_one hres rfl (okWide_bool_mk Tryd.underlying4 _)
  · intro b off hp
    have hin : MemPlace.cell b off ∈ before := by simpa using hp
    rw [hb.frozen (hlt _ hin)]
    exact hz b off hin
  · intro ha; cases ha
  · intro p hp _; simpa using hp
end
def layCells (cs : Array Value) : Obj → Obj
  | .cells _ t frozen => .cells cs t frozen
  | o => o
open Go Go.ChangeShapes Go.WideShapes Go.ChangeAt Go.RowKit Go.Joins
theorem list_gets {α : Type} {n : Nat} {p : Nat → α → Prop} (h : ∀ i, i < n → ∃ x, p i x) : ∃ l : List α, l.length = n ∧ ∀ (i : Nat) (x : α), l[i]? = some x → p i x := by
  induction n with
  | zero => exact ⟨[], rfl, by simp⟩
  | succ n ih =>
    obtain ⟨l, hl, hp⟩ := ih (fun i hi => h i (by omega))
    obtain ⟨x, hx⟩ := h n (by omega)
    refine ⟨l ++ [x], by simp [hl], fun i y hy => ?_⟩
    rcases Nat.lt_or_ge i l.length with hi | hi
    · exact hp i y (by rwa [List.getElem?_append_left hi] at hy)
    · rw [List.getElem?_append_right hi] at hy
      have : i = n := by
        have := (List.getElem?_eq_some_iff.1 hy).1
        simp at this; omega
      subst this
      rw [hl, Nat.sub_self] at hy
      obtain rfl : x = y := by simpa using hy
      exact hx
theorem chunks {s : Nat} : ∀ (n : Nat) (cs : List Value), cs.length = n * s → cs = (List.range n).flatMap fun i => (cs.drop (i * s)).take s := by
  intro n
  induction n with
  | zero => intro cs h; rw [Nat.zero_mul] at h; rw [List.eq_nil_of_length_eq_zero h]; rfl
  | succ n ih =>
    intro cs h
    rw [List.range_succ, List.flatMap_append, List.flatMap_singleton]
    have h1 := ih (cs.take (n * s)) (by rw [List.length_take, h, Nat.succ_mul]; omega)
    have h2 : (List.range n).flatMap (fun i => (cs.drop (i * s)).take s) = (List.range n).flatMap (fun i => ((cs.take (n * s)).drop (i * s)).take s) := by
      rw [List.flatMap_def, List.flatMap_def]
      congr 1
      apply List.map_congr_left
      intro i hi
      rw [List.mem_range] at hi
      have h3 : (i + 1) * s ≤ n * s := Nat.mul_le_mul_right s hi
      rw [Nat.succ_mul] at h3
      rw [List.drop_take, List.take_take]
      congr 1
      omega
    rw [h2, ← h1]
    have h4 : (cs.drop (n * s)).take s = cs.drop (n * s) := List.take_of_length_le (by rw [List.length_drop, h, Nat.succ_mul]; omega)
    rw [h4, List.take_append_drop]
def datE (k : Nat) : DataW Unit := .agg [.lit (.bool (exN (k : Int))), .lit (.bool (exR (k : Int))), .lit (.int .i64 (if k = 0 then 0 else kidsI (k : Int)))]
def datS (k : Nat) : DataW Unit := .agg [.lit (.bool (ptNm (k : Int))), .lit (.bool (ptLc (k : Int))), .lit (.bool (ptOr (k : Int))), .lit (.int .i64 (ptEx (k : Int))), .lit (.bool (ptTh (k : Int))), .lit (.bool (ptEl (k : Int)))]
theorem laidE : (Rows.laid_cantilever_ast_exprShapes : DataW Unit) = .agg ((List.range 17).map datE) := by kernel_rfl
theorem laidS : (Rows.laid_cantilever_ast_stmtShapes : DataW Unit) = .agg ((List.range 12).map datS) := by kernel_rfl
theorem cellsB : Tryd.prog.cellsOf 4 = 1 := by kernel_rfl
theorem cellsI : Tryd.prog.cellsOf 3 = 1 := by kernel_rfl
theorem cellsXE : Tryd.prog.cellsOf 87 = 3 := by kernel_rfl
theorem cellsXS : Tryd.prog.cellsOf 92 = 6 := by kernel_rfl
theorem gE : Tryd.prog.globalNamed "cantilever/ast.exprShapes" = some 0 := by kernel_rfl
theorem gS : Tryd.prog.globalNamed "cantilever/ast.stmtShapes" = some 1 := by kernel_rfl
theorem gET : (Tryd.prog.globals[0]?).map (·.type) = some 88 := by kernel_rfl
theorem gST : (Tryd.prog.globals[1]?).map (·.type) = some 93 := by kernel_rfl
section
variable {enc : TypeId × Value → Unit} {W : World} {sp : Nat → Bool} {held : Bool} {base : Nat}
set_option maxRecDepth 100000 in
theorem cells_shapeE {fuel : Nat} {cs : List Value} {y : DataW Unit × List MemPlace} {k : Nat} (h : DataW.trod enc Tryd.prog W base sp held fuel 87 cs = some y) (hy : y.1 = datE k) : cs = [.bool (exN (k : Int)), .bool (exR (k : Int)), .int .i64 (if k = 0 then 0 else kidsI (k : Int))] := by
  obtain ⟨xs, m, _, rfl, hl, hlen, hf⟩ := DataW.trod_struct Tryd.underlying87 h
  have g0 := hf 0 _ rfl
  have g1 := hf 1 _ rfl
  have g2 := hf 2 _ rfl
  have hlen : xs.length = 3 := hlen
  rw [cellsXE] at hl
  match xs, hlen, g0, g1, g2, hy with
  | [x0, x1, x2], _, g0, g1, g2, hy =>
    obtain ⟨b0, q0, rfl⟩ := DataW.trod_bool Tryd.underlying4 g0
    obtain ⟨b1, q1, rfl⟩ := DataW.trod_bool Tryd.underlying4 g1
    obtain ⟨b2, q2, rfl, _⟩ := DataW.trod_int Tryd.underlying3 g2
    match cs, hl, q0, q1, q2 with
    | [c0, c1, c2], _, q0, q1, q2 =>
      have e0 : c0 = .bool b0 := by simpa [cellsB] using q0
      have e1 : c1 = .bool b1 := by simpa [cellsB] using q1
      have e2 : c2 = .int .i64 b2 := by simpa [cellsI] using q2
      unfold datE at hy
      simp only [List.map_cons, List.map_nil, DataW.agg.injEq, List.cons.injEq, DataW.lit.injEq, Lit.bool.injEq, Lit.int.injEq, true_and, and_true] at hy
      rw [e0, e1, e2, hy.1, hy.2.1, hy.2.2]
set_option maxRecDepth 100000 in
theorem cells_shapeS {fuel : Nat} {cs : List Value} {y : DataW Unit × List MemPlace} {k : Nat} (h : DataW.trod enc Tryd.prog W base sp held fuel 92 cs = some y) (hy : y.1 = datS k) : cs = [.bool (ptNm (k : Int)), .bool (ptLc (k : Int)), .bool (ptOr (k : Int)), .int .i64 (ptEx (k : Int)), .bool (ptTh (k : Int)), .bool (ptEl (k : Int))] := by
  obtain ⟨xs, m, _, rfl, hl, hlen, hf⟩ := DataW.trod_struct Tryd.underlying92 h
  have g0 := hf 0 _ rfl
  have g1 := hf 1 _ rfl
  have g2 := hf 2 _ rfl
  have g3 := hf 3 _ rfl
  have g4 := hf 4 _ rfl
  have g5 := hf 5 _ rfl
  have hlen : xs.length = 6 := hlen
  rw [cellsXS] at hl
  match xs, hlen, g0, g1, g2, g3, g4, g5, hy with
  | [x0, x1, x2, x3, x4, x5], _, g0, g1, g2, g3, g4, g5, hy =>
    obtain ⟨b0, q0, rfl⟩ := DataW.trod_bool Tryd.underlying4 g0
    obtain ⟨b1, q1, rfl⟩ := DataW.trod_bool Tryd.underlying4 g1
    obtain ⟨b2, q2, rfl⟩ := DataW.trod_bool Tryd.underlying4 g2
    obtain ⟨b3, q3, rfl, _⟩ := DataW.trod_int Tryd.underlying3 g3
    obtain ⟨b4, q4, rfl⟩ := DataW.trod_bool Tryd.underlying4 g4
    obtain ⟨b5, q5, rfl⟩ := DataW.trod_bool Tryd.underlying4 g5
    match cs, hl, q0, q1, q2, q3, q4, q5 with
    | [c0, c1, c2, c3, c4, c5], _, q0, q1, q2, q3, q4, q5 =>
      have e0 : c0 = .bool b0 := by simpa [cellsB] using q0
      have e1 : c1 = .bool b1 := by simpa [cellsB] using q1
      have e2 : c2 = .bool b2 := by simpa [cellsB] using q2
      have e3 : c3 = .int .i64 b3 := by simpa [cellsI] using q3
      have e4 : c4 = .bool b4 := by simpa [cellsB] using q4
      have e5 : c5 = .bool b5 := by simpa [cellsB] using q5
      unfold datS at hy
      simp only [List.map_cons, List.map_nil, DataW.agg.injEq, List.cons.injEq, DataW.lit.injEq, Lit.bool.injEq, Lit.int.injEq, true_and, and_true] at hy
      rw [e0, e1, e2, e3, e4, e5, hy.1, hy.2.1, hy.2.2.1, hy.2.2.2.1, hy.2.2.2.2.1, hy.2.2.2.2.2]
end
theorem var_cells {W : World} {name : String} {g : Nat} {cs : List Value} (hg : Tryd.prog.globalNamed name = some g) (hv : W.var? Tryd.prog name = some cs.toArray) : CellsAt W ⟨g, 0, none⟩ cs := by
  intro j v hj
  have h := World.var?_cell hg hv j
  rw [Addr.add_mid, Nat.zero_add, h]
  simpa using hj
set_option maxRecDepth 100000 in
theorem tab_of {W : World} {l : List (String × DataW Unit)} (h : laidMetH Tryd.prog l W) (hl : (l.filter fun x => x.2.handleName?.isNone) = [("cantilever/ast.exprShapes", Rows.laid_cantilever_ast_exprShapes), ("cantilever/ast.stmtShapes", Rows.laid_cantilever_ast_stmtShapes)]) : TabOk W := by
  have h1 := (laidMetH_iff.1 h).1
  rw [hl] at h1
  obtain ⟨ps, ⟨g1, t1, cs1, f1, p1, q1, hg1, ht1, hv1, hd1, ⟨g2, t2, cs2, f2, p2, q2, hg2, ht2, hv2, hd2, _, _⟩, _⟩, _⟩ := h1
  obtain rfl := Option.some.inj (gE.symm.trans hg1)
  obtain rfl := Option.some.inj (gET.symm.trans ht1)
  obtain rfl := Option.some.inj (gS.symm.trans hg2)
  obtain rfl := Option.some.inj (gST.symm.trans ht2)
  refine ⟨?_, ?_⟩
  · obtain ⟨xs, m, _, hx, hcl, hxl, hel⟩ := DataW.trod_array Tryd.underlying88 hd1
    rw [laidE] at hx
    have hxs : xs.map (·.1) = (List.range 17).map datE := by
      have := congrArg Prod.fst hx
      simp only [DataW.agg.injEq] at this
      exact this.symm
    have e : cs1.toList = tabE := by
      rw [chunks (s := 3) 17 cs1.toList (hcl.trans (by kernel_rfl))]
      unfold tabE
      rw [List.flatMap_def, List.flatMap_def]
      congr 1
      apply List.map_congr_left
      intro i hi
      rw [List.mem_range] at hi
      have h2 := hel i hi
      rw [cellsXE, List.getElem?_eq_getElem (by omega)] at h2
      refine cells_shapeE (k := i) h2 ?_
      have h3 : (xs.map (·.1))[i]? = some (datE i) := by rw [hxs, List.getElem?_map, List.getElem?_range hi]; rfl
      rw [List.getElem?_map, List.getElem?_eq_getElem (by omega)] at h3
      exact Option.some.inj h3
    rw [← e]
    exact var_cells gE (by simpa using hv1)
  · obtain ⟨xs, m, _, hx, hcl, hxl, hel⟩ := DataW.trod_array Tryd.underlying93 hd2
    rw [laidS] at hx
    have hxs : xs.map (·.1) = (List.range 12).map datS := by
      have := congrArg Prod.fst hx
      simp only [DataW.agg.injEq] at this
      exact this.symm
    have e : cs2.toList = tabS := by
      rw [chunks (s := 6) 12 cs2.toList (hcl.trans (by kernel_rfl))]
      unfold tabS
      rw [List.flatMap_def, List.flatMap_def]
      congr 1
      apply List.map_congr_left
      intro i hi
      rw [List.mem_range] at hi
      have h2 := hel i hi
      rw [cellsXS, List.getElem?_eq_getElem (by omega)] at h2
      refine cells_shapeS (k := i) h2 ?_
      have h3 : (xs.map (·.1))[i]? = some (datS i) := by rw [hxs, List.getElem?_map, List.getElem?_range hi]; rfl
      rw [List.getElem?_map, List.getElem?_eq_getElem (by omega)] at h3
      exact Option.some.inj h3
    rw [← e]
    exact var_cells gS (by simpa using hv2)
noncomputable def laidWorld (os : Os) (vals : Array Value) : World :=
  let w0 := World.holding Tryd.prog os ⟨#[], vals, []⟩
  { w0 with heap := (w0.heap.modify 0 (layCells tabE.toArray)).modify 1 (layCells tabS.toArray) }
end Go.Proofs.YtiigncmpbkfhmaaDoor
namespace Go.Proofs.YtiigncmpbkfhmaaDoor
open Go Go.RowKit
def zerosL (n : Nat) (zs : List Value) : List Value := (List.replicate n zs).flatten
theorem zerosL_length (n : Nat) (zs : List Value) : (zerosL n zs).length = n * zs.length := by
  unfold zerosL; rw [List.length_flatten, List.map_replicate, List.sum_replicate_nat]
theorem zerosL_succ (n : Nat) (zs : List Value) : zerosL (n + 1) zs = zs ++ zerosL n zs := by
  unfold zerosL; rw [List.replicate_succ, List.flatten_cons]
theorem made_zeros (z : Array Value) (n : Nat) : (madeCells z (n * z.size)).toList = zerosL n z.toList := by
  unfold madeCells
  rw [Array.toList_map, Array.toList_range]
  induction n with
  | zero => simp [zerosL]
  | succ n ih =>
    rw [Nat.succ_mul, List.range_add, List.map_append, ih]
    have h1 : (List.map (fun x => z[x % z.size]!) (List.map (fun x => n * z.size + x) (List.range z.size))) = z.toList := by
      apply List.ext_getElem
      · simp
      · intro i h1 h2
        simp at h1
        simp [Nat.mul_add_mod', Nat.mod_eq_of_lt h1, h1]
    rw [h1]
    have h2 : zerosL (n + 1) z.toList = zerosL n z.toList ++ z.toList := by
      unfold zerosL; rw [List.replicate_succ', List.flatten_append]; simp
    rw [h2]
section
variable {P : Program} {ops : Array Oper} {Q : Exit → Act → World → Prop} {a : Act} {n i : Nat} {env : List (Nat × Value)} {l : List Nat} {w0 w w' : World} {its : List It}
theorem stepMake (hK : Knows a n env) (hM : Mem w0 w its) (d : Nat) {t e : TypeId} {x y : Operand} (zs : List Value) (m bytes : Nat) (hu : P.underlying t = some (.slice e)) (hi : (P.info? e).map (fun i => (i.zero.map (·.cells.toList), i.size, i.bytes)) = some (some zs, zs.length, bytes))
    (hc : chk ops env i n d = true) (hop : (opAt ops i).op = .makeSlice t x y) (hx : evE env x = vN m) (hy : evE env y = vN m) (hlim : m ≤ 1000000 ∧ bytes ≤ 100000)
    (h : ∀ b a' w', Knows a' n ((d, .slice (some ⟨b, 0, none⟩) m m) :: env) → Mem w0 w' (.row b e (zerosL m zs) :: its) → wpOps P ops Q l a' w') : wpOps P ops Q (i :: l) a w := by
  obtain ⟨j, hj, he⟩ := Option.map_eq_some_iff.1 hi
  simp only [Prod.mk.injEq] at he
  obtain ⟨hz, hs, hb⟩ := he
  obtain ⟨z, hz, hzc⟩ := Option.map_eq_some_iff.1 hz
  have h3 : j.bytes * m ≤ 100000 * 1000000 := Nat.mul_le_mul (by omega) hlim.1
  have hr := run_make (P := P) w t e j z hu hj hz .i64 .i64 (m : Int) (m : Int) (by omega) (Int.le_refl _) (by
    have : ((j.bytes * m : Nat) : Int) ≤ 281474976710656 := by omega
    rwa [Int.natCast_mul] at this) (by omega)
  simp only [Int.toNat_natCast] at hr
  have hsz : j.size = z.cells.size := by rw [hs, ← hzc]; simp
  have e2 : (madeCells z.cells (m * j.size)) = (zerosL m zs).toArray := by
    rw [hsz, ← hzc, ← made_zeros]
  rw [e2] at hr
  refine stepV hK d _ hc ?_ fun a' hK' => h _ a' _ hK' (hM.alloc e (zerosL m zs))
  simp [execOp, hop, hx, hy, hr]
theorem storeV_at {t : TypeId} {k : Nat} {cs new : List Value} {v : Value} (hi : (P.info? t).map (·.size) = some new.length) (hv : v.cells.toList = new) (h1 : new.all (·.oneCell') = true) (hk : k + new.length ≤ cs.length) : storeV P t k cs v = some (cs.take k ++ new ++ cs.drop (k + new.length)) := by
  obtain ⟨j, hj, hs⟩ := Option.map_eq_some_iff.1 hi
  unfold storeV
  rw [hj]
  simp only
  have e1 : v.cells.size = new.length := by rw [← hv]; simp
  have e2 : v.cells.all (·.oneCell') = true := by rw [← hv] at h1; simpa using h1
  rw [e2, hs, e1]
  have : (Nat.beq new.length new.length && Nat.ble (k + new.length) cs.length && true) = true := by
    rw [Nat.beq_refl, Bool.true_and, Bool.and_true]; rw [Nat.ble_eq]; exact hk
  rw [this, hv]; rfl
theorem stepStoreAt (hK : Knows a n env) (hM : Mem w0 w its) (j : Nat) {t tt : TypeId} {x y : Operand} {b k : Nat} {cs : List Value} {v : Value} (new cs' : List Value) (hc : chk0 ops env i = true) (hop : (opAt ops i).op = .store t x y) (hx : evE env x = .pointer (some ⟨b, k, none⟩)) (hy : evE env y = v) (hj : its[j]? = some (.row b tt cs))
    (hi : (P.info? t).map (·.size) = some new.length) (hv : v.cells.toList = new) (h1 : new.all (·.oneCell') = true) (hk : k + new.length ≤ cs.length) (hcs : cs.take k ++ new ++ cs.drop (k + new.length) = cs')
    (h : ∀ w', Mem w0 w' (its.set j (.row b tt cs')) → wpOps P ops Q l a w') : wpOps P ops Q (i :: l) a w := by
  subst hcs
  exact stepStore hK hM j _ hc hop hx hy hj (storeV_at hi hv h1 hk) h
end
theorem CellsAt.to {w : World} {a : Addr} {cs cs' : List Value} (h : CellsAt w a cs) (e : cs = cs') : CellsAt w a cs' := e ▸ h
theorem put_next {A new zs : List Value} {m k : Nat} (hA : A.length = k) (hz : zs.length = new.length) (hm : 0 < m) : (A ++ zerosL m zs).take k ++ new ++ (A ++ zerosL m zs).drop (k + new.length) = A ++ new ++ zerosL (m - 1) zs := by
  obtain ⟨m, rfl⟩ : ∃ q, m = q + 1 := ⟨m - 1, by omega⟩
  subst hA
  rw [zerosL_succ, List.take_left, ← List.drop_drop, List.drop_left, ← hz, List.drop_left]
  rfl
def HandAt {α : Type} (w : World) (A : Option Addr) (cs : α → List Value) (s : Nat) (l : List α) : Prop := ∀ (k : Nat) (x : α), l[k]? = some x → ∃ a, A = some a ∧ CellsAt w (a.add (k * s)) (cs x)
theorem HandAt.on {α : Type} {w w' : World} {A : Option Addr} {cs : α → List Value} {s : Nat} {l : List α} (h : HandAt w A cs s l) (hb : Below w.heap.size w w') : HandAt w' A cs s l := fun k x hx => (by
  obtain ⟨a, e1, e2⟩ := h k x hx
  exact ⟨a, e1, e2.on hb⟩)
theorem HandAt.row {α : Type} {w : World} {b : Nat} {t : TypeId} {f : α → Value} {l : List α} (h : RowT w b t (l.map f)) : HandAt w (some ⟨b, 0, none⟩) (fun x => [f x]) 1 l := by
  intro k x hx
  refine ⟨_, rfl, ?_⟩
  intro j v hj
  have h0 : j = 0 := by
    have := (List.getElem?_eq_some_iff.1 hj).1
    simp at this; omega
  subst h0
  obtain rfl := Option.some.inj hj
  rw [Nat.mul_one]
  have e : (Addr.add (⟨b, 0, none⟩ : Addr) k).add 0 = ⟨b, k, none⟩ := by
    rw [show (Addr.add (⟨b, 0, none⟩ : Addr) k).add 0 = Addr.add (⟨b, 0, none⟩ : Addr) k from if_pos rfl, Addr.add_mid, Nat.zero_add]
  rw [e, h.cell, List.getElem?_map, hx]; rfl
theorem own_hand {α : Type} {base : Nat} {w : World} {e : TypeId} {v : Value} {n : Nat} {f : α → Value} {l : List α} (h : w.ownsRow base e 1 v n (l.map f)) : ∃ A c, v = .slice A l.length c ∧ n = l.length ∧ HandAt w A (fun x => [f x]) 1 l ∧ (A = none → l = []) := by
  have hn : l.length = n := by have := h.1; simp at this; omega
  rcases h.2 with ⟨rfl, h0⟩ | ⟨g, cap, cur, rfl, hg, hh, h1, h2, h3, h4⟩
  · have hl : l = [] := List.eq_nil_of_length_eq_zero (by omega)
    subst hl
    exact ⟨none, 0, rfl, h0, fun k x hx => (by simp at hx), fun _ => rfl⟩
  · refine ⟨some ⟨g, 0, none⟩, cap, by rw [hn], hn.symm, ?_, fun h => (by cases h)⟩
    intro k x hx
    refine ⟨_, rfl, ?_⟩
    intro j u hj
    have h0 : j = 0 := by
      have := (List.getElem?_eq_some_iff.1 hj).1
      simp at this; omega
    subst h0
    obtain rfl := Option.some.inj hj
    rw [Nat.mul_one, show (Addr.add (⟨g, 0, none⟩ : Addr) k).add 0 = Addr.add (⟨g, 0, none⟩ : Addr) k from if_pos rfl]
    exact h.cells (g := g) rfl k _ (by rw [List.getElem?_map, hx]; rfl)
theorem row_own {base : Nat} {w : World} {b : Nat} {t : TypeId} {cs : List Value} {n s : Nat} (hb : base ≤ b) (h : RowT w b t cs) (hl : cs.length = n * s) (hn : n ≤ 1000000) : w.ownsRow base t s (.slice (some ⟨b, 0, none⟩) n n) n cs := by
  refine ⟨hl, .inr ⟨b, n, cs.toArray, rfl, hb, h, Nat.le_refl _, by unfold maxLen; omega, by simp [hl], by rw [← hl]; simp⟩⟩
theorem Mem.rowOwn {w0 w : World} {its : List It} {b : Nat} {t : TypeId} {cs : List Value} (hM : Mem w0 w (.row b t cs :: its)) {n s : Nat} (hl : cs.length = n * s) (hn : n ≤ 1000000) : Mem w0 w (.own t s (.slice (some ⟨b, 0, none⟩) n n) n cs :: its) := by
  refine ⟨hM.below, fun it hi => ?_, ?_⟩
  · rcases List.mem_cons.1 hi with rfl | hi
    · have h := hM.each _ List.mem_cons_self
      exact row_own h.1 h.2 hl hn
    · exact hM.each it (List.mem_cons_of_mem _ hi)
  · have := hM.apart
    rw [List.pairwise_cons] at this ⊢
    refine ⟨fun y hy => ?_, this.2⟩
    exact this.1 y hy
theorem run_eqNil {P : Program} {o : Oper} {ρ : Operand → Value} {w : World} {t e u : TypeId} {x y : Operand} {A : Option Addr} {n c : Nat} (hop : o.op = .binOp .eql t x y u) (hx : ρ x = .slice A n c) (hy : ρ y = .slice none 0 0) (ht : P.underlying t = some (.slice e)) : (execOp ρ o).run P w = .ok (.value (.bool A.isNone)) w := by
  simp [execOp, hop, hx, hy, go_sem, binOp, run_equal_slice_nil w t e A n c ht, Result.andThen]
def kL (c : Int → Nat) : List Value := (List.range 11).map fun j : Nat => .int .i64 ((c ((j : Int) + 1) : Nat) : Int)
def bumpK (k : Int) (c : Int → Nat) : Int → Nat := fun j => c j + if k = j then 1 else 0
theorem kL_out {k : Int} (h : ¬ (1 ≤ k ∧ k ≤ 11)) (c : Int → Nat) : kL (bumpK k c) = kL c := by
  unfold kL bumpK
  apply List.map_congr_left
  intro j hj
  rw [List.mem_range] at hj
  rw [if_neg (by omega), Nat.add_zero]
theorem kL_at {k : Int} (h : 1 ≤ k ∧ k ≤ 11) (c : Int → Nat) : ((kL c).drop ((k - 1).toNat * 1)).take 1 = [.int .i64 ((c k : Nat) : Int)] := by
  obtain ⟨j, rfl⟩ : ∃ j : Nat, k = (j : Int) + 1 := ⟨(k - 1).toNat, by omega⟩
  have hj : j < 11 := by omega
  rw [show ((j : Int) + 1 - 1).toNat * 1 = j by omega]
  have e : (kL c)[j]? = some (.int .i64 ((c ((j : Int) + 1) : Nat) : Int)) := by
    unfold kL; rw [List.getElem?_map, List.getElem?_range hj]; rfl
  obtain ⟨h1, h2⟩ := List.getElem?_eq_some_iff.1 e
  rw [List.drop_eq_getElem_cons h1, h2]; rfl
theorem kL_put {k : Int} (h : 1 ≤ k ∧ k ≤ 11) (c : Int → Nat) : (kL c).take ((k - 1).toNat * 1) ++ [Value.int .i64 (((c k + 1 : Nat)) : Int)] ++ (kL c).drop ((k - 1).toNat * 1 + [Value.int .i64 (((c k + 1 : Nat)) : Int)].length) = kL (bumpK k c) := by
  obtain ⟨j, rfl⟩ : ∃ j : Nat, k = (j : Int) + 1 := ⟨(k - 1).toNat, by omega⟩
  have hj : j < 11 := by omega
  rw [show ((j : Int) + 1 - 1).toNat * 1 = j by omega]
  have hlen : (kL c).length = 11 := by simp [kL]
  apply List.ext_getElem?
  intro q
  show (_ ++ _ ++ (kL c).drop (j + 1))[q]? = _
  have hk : ∀ c : Int → Nat, ∀ q, (kL c)[q]? = if q < 11 then some (.int .i64 ((c ((q : Int) + 1) : Nat) : Int)) else none := by
    intro c q
    unfold kL
    rw [List.getElem?_map]
    split
    · rename_i hq; rw [List.getElem?_range hq]; rfl
    · rename_i hq; rw [List.getElem?_eq_none (by simpa using hq)]; rfl
  rw [hk (bumpK _ c)]
  rcases Nat.lt_trichotomy q j with hq | hq | hq
  · rw [List.getElem?_append_left (by simp [hlen]; omega), List.getElem?_append_left (by simp [hlen]; omega), List.getElem?_take, if_pos hq, hk]
    unfold bumpK
    rw [if_neg (show ¬ ((j : Int) + 1 = (q : Int) + 1) by omega), Nat.add_zero]
  · subst hq
    rw [List.getElem?_append_left (by simp [hlen]; omega), List.getElem?_append_right (by simp [hlen]; omega)]
    have : ((kL c).take q).length = q := by simp [hlen]; omega
    rw [this, Nat.sub_self, if_pos hj]
    unfold bumpK
    rw [if_pos rfl]; rfl
  · rw [List.getElem?_append_right (by simp [hlen]; omega)]
    have : (((kL c).take j) ++ [Value.int .i64 (((c ((j : Int) + 1) + 1 : Nat)) : Int)]).length = j + 1 := by simp [hlen]; omega
    rw [this, List.getElem?_drop, show j + 1 + (q - (j + 1)) = q by omega, hk]
    unfold bumpK
    rw [if_neg (show ¬ ((j : Int) + 1 = (q : Int) + 1) by omega), Nat.add_zero]
end Go.Proofs.YtiigncmpbkfhmaaDoor
namespace Go.Proofs.YtiigncmpbkfhmaaDoor
open Go Go.RowKit
theorem flat_at {α : Type} {f : α → List Value} {s : Nat} (hf : ∀ x, (f x).length = s) : ∀ {l : List α} {k : Nat} {x : α}, l[k]? = some x → ((l.flatMap f).drop (k * s)).take s = f x := by
  intro l
  induction l with
  | nil => intro k x h; simp at h
  | cons y r ih =>
    intro k x h
    rw [List.flatMap_cons]
    cases k with
    | zero => obtain rfl := Option.some.inj h; rw [Nat.zero_mul, List.drop_zero, ← hf y, List.take_left]
    | succ k =>
      rw [Nat.succ_mul, Nat.add_comm, ← List.drop_drop]
      have h2 : ((f y) ++ r.flatMap f).drop s = r.flatMap f := by rw [← hf y, List.drop_left]
      rw [h2]
      exact ih (by simpa using h)
theorem RowT.atCells {w : World} {b : Nat} {t : TypeId} {cs : List Value} (h : RowT w b t cs) (i m : Nat) : CellsAt w ((⟨b, 0, none⟩ : Addr).add i) ((cs.drop i).take m) := by
  rcases Nat.eq_zero_or_pos i with hi | hi
  · subst hi; exact h.cells 0 m
  · have h1 := (h.cells 0 cs.length).addA i m hi
    rw [List.drop_zero, List.take_length] at h1
    exact h1
theorem exs_row {w : World} {b : Nat} {l : List Ex} (h : RowT w b 36 (l.flatMap cE)) (hx : ∀ x ∈ l, ExAt w x) : ExsAt w (some ⟨b, 0, none⟩) l := by
  intro k x hk
  refine ⟨⟨_, rfl, ?_⟩, hx x (List.mem_of_getElem? hk)⟩
  exact (h.atCells (k * 4) 4).to (flat_at (f := cE) (s := 4) (fun _ => rfl) hk)
theorem sms_row {w : World} {b : Nat} {l : List Sm} (h : RowT w b 30 (l.flatMap cS)) (hx : ∀ x ∈ l, SmAt w x) : SmsAt w (some ⟨b, 0, none⟩) l := by
  intro k x hk
  refine ⟨⟨_, rfl, ?_⟩, hx x (List.mem_of_getElem? hk)⟩
  exact (h.atCells (k * 7) 7).to (flat_at (f := cS) (s := 7) (fun _ => rfl) hk)
theorem exs_nil (w : World) (A : Option Addr) : ExsAt w A [] := fun k x hx => by simp at hx
theorem sms_nil (w : World) (A : Option Addr) : SmsAt w A [] := fun k x hx => by simp at hx
theorem ex_node {w : World} {e : Ex} (hn : e.nm.length ≤ 65536) (hk : e.ks.length ≤ 65536) (h : ExsAt w e.A e.ks) : ExAt w e := .mk e ⟨by omega, by omega⟩ (fun k x hx => (h k x hx).1) fun k x hx => (h k x hx).2
theorem sm_node {w : World} {s : Sm} (hn : s.nm.length ≤ 65536 ∧ s.loc.length ≤ 65536 ∧ s.es.length ≤ 65536 ∧ s.th.length ≤ 65536 ∧ s.el.length ≤ 65536) (h1 : ExsAt w s.A1 s.es) (h2 : SmsAt w s.A2 s.th) (h3 : SmsAt w s.A3 s.el) : SmAt w s :=
  .mk s (by omega) h1 (fun k x hx => (h2 k x hx).1) (fun k x hx => (h2 k x hx).2) (fun k x hx => (h3 k x hx).1) fun k x hx => (h3 k x hx).2
def exR0 : Ex := .mk 2 0 [114] none 0 []
def ex10 : Ex := .mk 1 1 [] none 0 []
def exOp (op : Int) (b : Nat) : Ex := .mk op 0 [] (some ⟨b, 0, none⟩) 2 [exR0, ex10]
def st1 (A : Option Addr) (c : Nat) (els : List Sm) : Sm := .mk 2 [114] [120] 3 none 0 [] none 0 [] A c els
def stSt (k1 e1 : Nat) : Sm := .mk 3 [] [120] 4 (some ⟨e1, 0, none⟩) 1 [exOp 14 k1] none 0 [] none 0 []
def stIf (k1 e1 s1 k2 e2 : Nat) : Sm := .mk 10 [] [] 0 (some ⟨e2, 0, none⟩) 1 [exOp 7 k2] (some ⟨s1, 0, none⟩) 1 [stSt k1 e1] none 0 []
def pgT (k1 e1 s1 d0 k2 e2 s0 t0 : Nat) (A : Option Addr) (c : Nat) (els : List Sm) : Pg := { A1 := some ⟨d0, 0, none⟩, c1 := 1, ds := [⟨[120], false, 0⟩], A2 := some ⟨t0, 0, none⟩, c2 := 1, ts := [⟨some ⟨s0, 0, none⟩, 2, [st1 A c els, stIf k1 e1 s1 k2 e2]⟩] }
theorem exOp_at {w : World} {op : Int} {b : Nat} (h : RowT w b 36 ([exR0, ex10].flatMap cE)) : ExAt w (exOp op b) :=
  ex_node (show ([] : List UInt8).length ≤ _ by decide) (show [exR0, ex10].length ≤ _ by decide) (exs_row h fun x hx => by
    rcases List.mem_cons.1 hx with rfl | hx
    · exact ex_node (show [(114 : UInt8)].length ≤ _ by decide) (show ([] : List Ex).length ≤ _ by decide) (exs_nil _ _)
    · obtain rfl := List.mem_singleton.1 hx
      exact ex_node (show ([] : List UInt8).length ≤ _ by decide) (show ([] : List Ex).length ≤ _ by decide) (exs_nil _ _))
theorem pages_at {w : World} {k1 e1 s1 d0 k2 e2 s0 t0 : Nat} {A : Option Addr} {c : Nat} {els : List Sm} (h1 : RowT w k1 36 ([exR0, ex10].flatMap cE)) (h2 : RowT w e1 36 ([exOp 14 k1].flatMap cE)) (h3 : RowT w s1 30 ([stSt k1 e1].flatMap cS)) (h4 : RowT w d0 45 [Str [120], .bool false, .int .i64 0])
    (h5 : RowT w k2 36 ([exR0, ex10].flatMap cE)) (h6 : RowT w e2 36 ([exOp 7 k2].flatMap cE)) (h7 : RowT w s0 30 ([st1 A c els, stIf k1 e1 s1 k2 e2].flatMap cS)) (h8 : RowT w t0 28 [.slice (some ⟨s0, 0, none⟩) 2 2]) (hel : els.length ≤ 65536) (h9 : SmsAt w A els) : PgAt w (pgT k1 e1 s1 d0 k2 e2 s0 t0 A c els) := by
  have hst : SmAt w (stSt k1 e1) := sm_node ⟨Nat.zero_le _, (show 1 ≤ 65536 by decide), (show 1 ≤ 65536 by decide), Nat.zero_le _, Nat.zero_le _⟩ (exs_row h2 fun x hx => by obtain rfl := List.mem_singleton.1 hx; exact exOp_at h1) (sms_nil _ _) (sms_nil _ _)
  have hif : SmAt w (stIf k1 e1 s1 k2 e2) := sm_node ⟨Nat.zero_le _, Nat.zero_le _, (show 1 ≤ 65536 by decide), (show 1 ≤ 65536 by decide), Nat.zero_le _⟩ (exs_row h6 fun x hx => by obtain rfl := List.mem_singleton.1 hx; exact exOp_at h5) (sms_row h3 fun x hx => by obtain rfl := List.mem_singleton.1 hx; exact hst) (sms_nil _ _)
  have hs1 : SmAt w (st1 A c els) := sm_node ⟨(show 1 ≤ 65536 by decide), (show 1 ≤ 65536 by decide), Nat.zero_le _, Nat.zero_le _, hel⟩ (exs_nil _ _) (sms_nil _ _) h9
  refine ⟨fun k d hd => ?_, fun k t ht => ?_, (show 1 ≤ 9223372036854775807 by decide), (show 1 ≤ 9223372036854775807 by decide)⟩
  · cases k with
    | zero =>
      obtain rfl := Option.some.inj hd
      exact ⟨⟨_, rfl, h4.atCells 0 3⟩, (show 1 ≤ 9223372036854775807 by decide)⟩
    | succ k => simp [pgT] at hd
  · cases k with
    | zero =>
      obtain rfl := Option.some.inj ht
      refine ⟨⟨_, rfl, h8.atCells 0 1⟩, sms_row h7 fun x hx => ?_, (show 2 ≤ 9223372036854775807 by decide)⟩
      rcases List.mem_cons.1 hx with rfl | hx
      · exact hs1
      · obtain rfl := List.mem_singleton.1 hx; exact hif
    | succ k => simp [pgT] at ht
theorem own_at {α : Type} {base : Nat} {w : World} {e : TypeId} {A : Option Addr} {q c n : Nat} {f : α → Value} {l : List α} (h : w.ownsRow base e 1 (.slice A q c) n (l.map f)) : HandAt w A (fun x => [f x]) 1 l := by
  obtain ⟨A', c', e', _, hH, _⟩ := own_hand h
  injection e' with e1
  subst e1; exact hH
end Go.Proofs.YtiigncmpbkfhmaaDoor
namespace Go.Proofs.YtiigncmpbkfhmaaDoor
open Go Go.RowKit
def RowIn (F : List It) (t : TypeId) (A : Option Addr) (cs : List Value) : Prop := cs = [] ∨ ∃ b, A = some ⟨b, 0, none⟩ ∧ It.row b t cs ∈ F
theorem RowIn.mono {F G : List It} {t : TypeId} {A : Option Addr} {cs : List Value} (h : RowIn F t A cs) (hs : ∀ it ∈ F, it ∈ G) : RowIn G t A cs := h.imp id fun ⟨b, e, m⟩ => ⟨b, e, hs _ m⟩
inductive ExRows (F : List It) : Ex → Prop
  | mk (e : Ex) (hn : e.nm.length ≤ 9223372036854775807 ∧ e.ks.length ≤ 9223372036854775807) (h : RowIn F 36 e.A (e.ks.flatMap cE)) (h2 : ∀ x ∈ e.ks, ExRows F x) : ExRows F e
inductive SmRows (F : List It) : Sm → Prop
  | mk (s : Sm) (hn : s.nm.length ≤ 9223372036854775807 ∧ s.loc.length ≤ 9223372036854775807 ∧ s.es.length ≤ 9223372036854775807 ∧ s.th.length ≤ 9223372036854775807 ∧ s.el.length ≤ 9223372036854775807)
    (h1 : RowIn F 36 s.A1 (s.es.flatMap cE)) (he : ∀ x ∈ s.es, ExRows F x)
    (h2 : RowIn F 30 s.A2 (s.th.flatMap cS)) (ht : ∀ x ∈ s.th, SmRows F x)
    (h3 : RowIn F 30 s.A3 (s.el.flatMap cS)) (hl : ∀ x ∈ s.el, SmRows F x) : SmRows F s
theorem ExRows.mono {F G : List It} {e : Ex} (h : ExRows F e) (hs : ∀ it ∈ F, it ∈ G) : ExRows G e := by
  induction h with
  | mk e hn h h2 ih => exact .mk e hn (h.mono hs) ih
theorem SmRows.mono {F G : List It} {s : Sm} (h : SmRows F s) (hs : ∀ it ∈ F, it ∈ G) : SmRows G s := by
  induction h with
  | mk s hn h1 he h2 ht h3 hl ih1 ih2 => exact .mk s hn (h1.mono hs) (fun x hx => (he x hx).mono hs) (h2.mono hs) ih1 (h3.mono hs) ih2
theorem exs_in {w0 w : World} {F : List It} (hM : Mem w0 w F) {A : Option Addr} {l : List Ex} (h : RowIn F 36 A (l.flatMap cE)) (hx : ∀ x ∈ l, ExAt w x) : ExsAt w A l := by
  rcases h with h | ⟨b, rfl, hm⟩
  · have : l = [] := by
      cases l with
      | nil => rfl
      | cons x r => simp [cE] at h
    subst this; exact exs_nil _ _
  · exact exs_row (hM.each _ hm).2 hx
theorem sms_in {w0 w : World} {F : List It} (hM : Mem w0 w F) {A : Option Addr} {l : List Sm} (h : RowIn F 30 A (l.flatMap cS)) (hx : ∀ x ∈ l, SmAt w x) : SmsAt w A l := by
  rcases h with h | ⟨b, rfl, hm⟩
  · have : l = [] := by
      cases l with
      | nil => rfl
      | cons x r => simp [cS] at h
    subst this; exact sms_nil _ _
  · exact sms_row (hM.each _ hm).2 hx
theorem ExRows.at {w0 w : World} {F : List It} (hM : Mem w0 w F) {e : Ex} (h : ExRows F e) : ExAt w e := by
  induction h with
  | mk e hn h h2 ih =>
    have hk := exs_in hM h ih
    exact .mk e hn (fun k x hx => (hk k x hx).1) fun k x hx => (hk k x hx).2
theorem SmRows.at {w0 w : World} {F : List It} (hM : Mem w0 w F) {s : Sm} (h : SmRows F s) : SmAt w s := by
  induction h with
  | mk s hn h1 he h2 ht h3 hl ih1 ih2 =>
    have k1 := exs_in hM h1 fun x hx => (he x hx).at hM
    have k2 := sms_in hM h2 ih1
    have k3 := sms_in hM h3 ih2
    exact .mk s hn k1 (fun k x hx => (k2 k x hx).1) (fun k x hx => (k2 k x hx).2) (fun k x hx => (k3 k x hx).1) fun k x hx => (k3 k x hx).2
structure PgRows (F : List It) (p : Pg) : Prop where
  decls : RowIn F 45 p.A1 (p.ds.flatMap cD)
  dlen : ∀ d ∈ p.ds, d.nm.length ≤ 9223372036854775807
  threads : RowIn F 28 p.A2 (p.ts.flatMap cT)
  lists : ∀ t ∈ p.ts, RowIn F 30 t.A (t.l.flatMap cS) ∧ (∀ s ∈ t.l, SmRows F s) ∧ t.l.length ≤ 9223372036854775807
  len : p.ds.length ≤ 9223372036854775807 ∧ p.ts.length ≤ 9223372036854775807
theorem rows_at {α : Type} {w0 w : World} {F : List It} (hM : Mem w0 w F) {t : TypeId} {A : Option Addr} {f : α → List Value} {s : Nat} (hf : ∀ x, (f x).length = s) (hs : 0 < s) {l : List α} (h : RowIn F t A (l.flatMap f)) {k : Nat} {x : α} (hk : l[k]? = some x) : ∃ a, A = some a ∧ CellsAt w (a.add (k * s)) (f x) := by
  rcases h with h | ⟨b, rfl, hm⟩
  · exfalso
    have h1 := List.flatMap_eq_nil_iff.1 h x (List.mem_of_getElem? hk)
    have h2 := hf x
    rw [h1] at h2
    simp at h2
    omega
  · exact ⟨_, rfl, ((hM.each _ hm).2.atCells (k * s) s).to (flat_at (f := f) (s := s) hf hk)⟩
theorem PgRows.at {w0 w : World} {F : List It} (hM : Mem w0 w F) {p : Pg} (h : PgRows F p) : PgAt w p where
  decls := fun _ d hk => ⟨rows_at (s := 3) hM (fun _ => rfl) (by decide) h.decls hk, h.dlen d (List.mem_of_getElem? hk)⟩
  threads := fun _ t hk => (by
    obtain ⟨h1, h2, h3⟩ := h.lists t (List.mem_of_getElem? hk)
    exact ⟨rows_at (s := 1) hM (fun _ => rfl) (by decide) h.threads hk, sms_in hM h1 fun s hs => (h2 s hs).at hM, h3⟩)
  len := h.len
theorem PgRows.mono {F G : List It} {p : Pg} (h : PgRows F p) (hs : ∀ it ∈ F, it ∈ G) : PgRows G p where
  decls := h.decls.mono hs
  dlen := h.dlen
  threads := h.threads.mono hs
  lists := fun t ht => ⟨(h.lists t ht).1.mono hs, fun s h2 => ((h.lists t ht).2.1 s h2).mono hs, (h.lists t ht).2.2⟩
  len := h.len
end Go.Proofs.YtiigncmpbkfhmaaDoor
namespace Go.Proofs.YtiigncmpbkfhmaaDoor
open Go Go.RowKit
theorem perm_mid (r : List It) (g F : List It) : (r ++ (g ++ F)).Perm (g ++ (r ++ F)) := by
 rw [← List.append_assoc, ← List.append_assoc]
 exact (List.perm_append_comm).append_right F
theorem perm_mid2 (r : List It) (g F : List It) : (g ++ (r ++ F)).Perm (r ++ (g ++ F)) := (perm_mid r g F).symm
theorem en_ast_walk : Enters Tryd.prog 33 := enters_of Tryd.func33 (by kernel_rfl) rfl
set_option maxRecDepth 100000 in
set_option maxHeartbeats 4000000 in
theorem ast_walk_n {σ : Type} {w0 : World} {G : σ → List It} {ok : Nat → σ → Prop} {f : Ex → Nat → σ → Bool × σ} {g : Sm → Nat → σ → Bool × σ} {fe fs : FuncId} {ce cs : Array Value} (hE : StepE w0 G ok f fe ce) (hS : StepS w0 G ok g fs cs) : ∀ (n : Nat) (es : List Ex) (ss : List Sm) (A : Option Addr) (c : Nat) (B : Option Addr) (e d k : Nat) (s : σ) (F : List It) (w1 : World), exsSz es + smsSz ss < n → d + n ≤ 1000000 → (∀ (s : σ) (F : List It) (w : World), Mem w0 w (G s ++ F) → ExsAt w A es ∧ SmsAt w B ss) → exsSh es = true → smsSh ss = true → Mem w0 w1 (G s ++ F) → ok (exsSz es + smsSz ss + k) s → Calls Tryd.prog 33 #[.slice A es.length c, .slice B ss.length e, vN d, .func (.func fe) #[] ce, .func (.func fs) #[] cs] w1 (Gives w0 (fun r : Bool × σ => .bool r.1) (fun r => G r.2 ++ F) fun r => r = walkW f g es ss d s ∧ (r.1 = true → ok k r.2)) := by
 intro n
 induction n with
 | zero => intro es ss A c B e d k s F w1 h; omega
 | succ n ih =>
 intro es ss A c B e d k s F w1 hsz hd hT hs1 hs2 hM0 hok
 have hl1 := exsSz_len es; have hl2 := smsSz_len ss
 refine calls_KM (args := [.slice A es.length c, .slice B ss.length e, vN d, .func (.func fe) #[] ce, .func (.func fs) #[] cs]) (n := 71) (env := [(0, .slice A es.length c), (1, .slice B ss.length e), (2, vN d), (3, .func (.func fe) #[] ce), (4, .func (.func fs) #[] cs)]) Tryd.func33 rfl rfl rfl ⟨rfl, rfl, rfl, rfl, rfl, trivial⟩ hM0 fun a w hK hM => ?_
 refine wp_seq ?_
 refine region_go (lst := [0]) (by kernel_rfl) ?_
 refine stepP hK 10 (.bool false) (by kernel_rfl) (by kernel_rfl) fun a hK => ?_
 refine region_done hK [(10, .bool false), (0, .slice A es.length c), (1, .slice B ss.length e), (2, vN d), (3, .func (.func fe) #[] ce), (4, .func (.func fs) #[] cs)] ⟨rfl, rfl, rfl, rfl, rfl, rfl, trivial⟩ fun a hK => ?_
 refine wp_seq ?_
 refine wp_seq ?_
 refine region_go (lst := [0, 1, 2]) (by kernel_rfl) ?_
 refine stepM hK 15 0 (by kernel_rfl) (.inl rfl) rfl fun a hK => ?_
 refine stepP hK 16 (.int .i64 ((es.length : Nat) : Int)) (by kernel_rfl) (by kernel_rfl) fun a hK => ?_
 refine stepP hK 17 (.int .i64 0) (by kernel_rfl) (by kernel_rfl) fun a hK => ?_
 refine region_done hK [(17, .int .i64 0), (16, .int .i64 ((es.length : Nat) : Int)), (15, .slice A es.length c), (10, .bool false), (0, .slice A es.length c), (1, .slice B ss.length e), (2, vN d), (3, .func (.func fe) #[] ce), (4, .func (.func fs) #[] cs)] ⟨rfl, rfl, rfl, rfl, rfl, rfl, rfl, rfl, rfl, trivial⟩ fun a hK => ?_
 refine wp_block ?_
 refine wp_loopX (fun x : Nat × σ => [(16, .int .i64 ((es.length : Nat) : Int)), (15, .slice A es.length c), (10, .bool false), (0, .slice A es.length c), (1, .slice B ss.length e), (2, vN d), (3, .func (.func fe) #[] ce), (4, .func (.func fs) #[] cs), (17, .int .i64 ((x.1 : Nat) : Int))]) (fun x : Nat × σ => ((G x.2 ++ F))) (fun x : Nat × σ => x.1 ≤ es.length ∧ exsWk f (es.drop x.1) d x.2 = exsWk f es d s ∧ ok (exsSz (es.drop x.1) + (smsSz ss + k)) x.2) (fun x : Nat × σ => es.length - x.1) (0, s) (hK.sub ⟨rfl, rfl, rfl, rfl, rfl, rfl, rfl, rfl, rfl, trivial⟩) hM ⟨Nat.zero_le _, rfl, ok_eq hok (by rw [List.drop_zero]; omega)⟩ ?_
 rintro ⟨i, s1⟩ a w hK hM hR
 replace hK : Knows a 71 [(16, .int .i64 ((es.length : Nat) : Int)), (15, .slice A es.length c), (10, .bool false), (0, .slice A es.length c), (1, .slice B ss.length e), (2, vN d), (3, .func (.func fe) #[] ce), (4, .func (.func fs) #[] cs), (17, vN i)] := hK
 replace hM : Mem w0 w ((G s1 ++ F)) := hM
 replace hR : i ≤ es.length ∧ exsWk f (es.drop i) d s1 = exsWk f es d s ∧ ok (exsSz (es.drop i) + (smsSz ss + k)) s1 := hR
 refine wp_seq ?_
 refine region_go (lst := [0]) (by kernel_rfl) ?_
 by_cases h1 : (((i : Nat) : Int) : Int) < ((es.length : Nat) : Int)
 ·refine stepP hK 18 (.bool true) (by kernel_rfl) (okBool (b := (decide ((((i : Nat) : Int) : Int) < ((es.length : Nat) : Int)))) (by kernel_rfl) (decide_eq_true h1)) fun a hK => ?_
  refine region_done hK [(18, .bool true), (16, .int .i64 ((es.length : Nat) : Int)), (15, .slice A es.length c), (10, .bool false), (0, .slice A es.length c), (1, .slice B ss.length e), (2, vN d), (3, .func (.func fe) #[] ce), (4, .func (.func fs) #[] cs), (17, vN i)] ⟨rfl, rfl, rfl, rfl, rfl, rfl, rfl, rfl, rfl, rfl, trivial⟩ fun a hK => ?_
  refine wp_seq ?_
  refine wp_cond_true (hK.get rfl) ?_
  refine wp_skip ?_
  refine wp_seq ?_
  refine wp_block ?_
  refine wp_seq ?_
  refine region_go (lst := [0, 1, 2, 3]) (by kernel_rfl) ?_
  obtain ⟨t2, ht2⟩ : ∃ t, es[(i : Nat)]? = some t := ⟨_, List.getElem?_eq_getElem (by omega)⟩
  obtain ⟨at2, At2, -⟩ := ((hT _ _ _ hM).1 _ _ ht2).1
  have ct2 : ∀ (s : σ) (F : List It) (w : World), Mem w0 w (G s ++ F) → CellsAt w (at2.add (i * 4)) (cE t2) ∧ ExAt w t2 := fun s F w h => by obtain ⟨⟨a2, h1, h2⟩, h3⟩ := (hT s F w h).1 _ _ ht2; rw [At2] at h1; obtain rfl := Option.some.inj h1; exact ⟨h2, h3⟩
  refine stepP hK 19 (.pointer (some (at2.add (i * 4)))) (by kernel_rfl) (run_ixA (k := i) (s := 4) rfl rfl At2 rfl Tryd.underlying27 (by kernel_rfl) (by omega)) fun a hK => ?_
  refine stepLoad hK 20 (vE t2) (by kernel_rfl) rfl rfl ((ct2 _ _ _ hM).1) (by kernel_rfl) fun a hK => ?_
  refine stepAlloc hK hM 12 36 [.int .i64 0, .int .i64 0, Str [], .slice none 0 0] (fun b => pA b 0) (by kernel_rfl) (by kernel_rfl) fun b3 a w hK hM => ?_
  refine stepStore hK hM 0 (cE t2) (by kernel_rfl) rfl rfl rfl rfl (by kernel_rfl) fun w hM => ?_
  replace hM := hM.to (.row b3 36 (cE t2) :: (G s1 ++ F)) (by kernel_rfl)
  refine region_done hK [(12, pA b3 0), (18, .bool true), (16, .int .i64 ((es.length : Nat) : Int)), (15, .slice A es.length c), (10, .bool false), (0, .slice A es.length c), (1, .slice B ss.length e), (2, vN d), (3, .func (.func fe) #[] ce), (4, .func (.func fs) #[] cs), (17, vN i)] ⟨rfl, rfl, rfl, rfl, rfl, rfl, rfl, rfl, rfl, rfl, rfl, trivial⟩ fun a hK => ?_
  refine wp_seq ?_
  refine region_go (lst := [0, 1, 2, 3, 4, 5, 6, 7, 8, 9, 10, 11, 12, 13, 14]) (by kernel_rfl) ?_
  refine stepM hK 21 3 (by kernel_rfl) (.inl rfl) rfl fun a hK => ?_
  refine stepLoad hK 22 (vE t2) (by kernel_rfl) rfl rfl ((hM.row 0 rfl).cells 0 4) (by kernel_rfl) fun a hK => ?_
  refine stepM hK 23 2 (by kernel_rfl) (.inl rfl) rfl fun a hK => ?_
  have hc7m : Mem w0 _ (G s1 ++ ([.row b3 36 (cE t2)] ++ F)) := (hM.perm (perm_mid [.row b3 36 (cE t2)] (G s1) F))
  have hc7 := hE.call t2 d (exsSz t2.ks + (exsSz (es.drop (i + 1)) + (smsSz ss + k))) s1 ([.row b3 36 (cE t2)] ++ F) _ hc7m (ct2 _ _ _ hc7m).2 (exsSh_mem hs1 (List.mem_of_getElem? ht2)) (by omega) (ok_eq hR.2.2 (by have h1 := exsSz_drop ht2; have h2 := sz_eq t2; omega))
  replace hc7 := hc7.mono (fun _ _ h => Gives.perm (g' := fun r : Bool × σ => [.row b3 36 (cE t2)] ++ (G r.2 ++ F)) (fun r => perm_mid2 [.row b3 36 (cE t2)] (G r.2) F) h)
  refine stepCallIn hK 24 _ (by kernel_rfl) (run_callE hE.enters rfl rfl (by kernel_rfl)) (hc7) ?_
  rintro ⟨r4, q5⟩ a w hR6 hK hM
  replace hM := hM.to (.row b3 36 (cE t2) :: (G q5 ++ F)) (by kernel_rfl)
  rcases Bool.eq_false_or_eq_true (!r4) with h9 | h9
  ·refine stepP hK 25 (.bool true) (by kernel_rfl) (okBool (b := (!r4)) (by kernel_rfl) h9) fun a hK => ?_
   refine stepM hK 26 25 (by kernel_rfl) (.inl rfl) rfl fun a hK => ?_
   refine stepN hK 27 (by kernel_rfl) fun a hK => ?_
   refine stepN hK 28 (by kernel_rfl) fun a hK => ?_
   refine stepN hK 29 (by kernel_rfl) fun a hK => ?_
   refine stepN hK 30 (by kernel_rfl) fun a hK => ?_
   refine stepN hK 31 (by kernel_rfl) fun a hK => ?_
   refine stepN hK 32 (by kernel_rfl) fun a hK => ?_
   refine stepN hK 33 (by kernel_rfl) fun a hK => ?_
   refine stepN hK 34 (by kernel_rfl) fun a hK => ?_
   refine stepP hK 35 (.bool true) (by kernel_rfl) (by kernel_rfl) fun a hK => ?_
   refine region_done hK [(35, .bool true), (12, pA b3 0), (18, .bool true), (16, .int .i64 ((es.length : Nat) : Int)), (15, .slice A es.length c), (10, .bool false), (0, .slice A es.length c), (1, .slice B ss.length e), (2, vN d), (3, .func (.func fe) #[] ce), (4, .func (.func fs) #[] cs), (17, vN i)] ⟨rfl, rfl, rfl, rfl, rfl, rfl, rfl, rfl, rfl, rfl, rfl, rfl, trivial⟩ fun a hK => ?_
   refine wp_cond_true (hK.get rfl) ?_
   refine wp_seq ?_
   refine region_go (lst := [0]) (by kernel_rfl) ?_
   refine stepP hK 10 (.bool false) (by kernel_rfl) (by kernel_rfl) fun a hK => ?_
   refine region_done hK [(10, .bool false), (35, .bool true), (12, pA b3 0), (18, .bool true), (16, .int .i64 ((es.length : Nat) : Int)), (15, .slice A es.length c), (0, .slice A es.length c), (1, .slice B ss.length e), (2, vN d), (3, .func (.func fe) #[] ce), (4, .func (.func fs) #[] cs), (17, vN i)] ⟨rfl, rfl, rfl, rfl, rfl, rfl, rfl, rfl, rfl, rfl, rfl, rfl, trivial⟩ fun a hK => ?_
   refine wp_ret ?_
   exact ret_t hK rfl (u := (.bool false)) rfl (⟨(false, q5), rfl, (hM.drop 1), (walkW_stop (exs_stop ht2 hR.2.1 (ex_stop1 (pair_of hR6 (bf_of h9)).symm))).symm, fun h => by cases h⟩)
  ·refine stepP hK 25 (.bool false) (by kernel_rfl) (okBool (b := (!r4)) (by kernel_rfl) h9) fun a hK => ?_
   refine stepM hK 26 25 (by kernel_rfl) (.inl rfl) rfl fun a hK => ?_
   refine stepP hK 27 (pA b3 3) (by kernel_rfl) (by kernel_rfl) fun a hK => ?_
   refine stepLoad hK 28 (.slice t2.A t2.ks.length t2.c) (by kernel_rfl) rfl rfl ((hM.row 0 rfl).cells 3 1) (by kernel_rfl) fun a hK => ?_
   refine stepM hK 29 2 (by kernel_rfl) (.inl rfl) rfl fun a hK => ?_
   refine stepP hK 30 (.int .i64 (((d + 1) : Nat) : Int)) (by kernel_rfl) (run_addN (i := d) (j := 1) rfl rfl rfl (by omega)) fun a hK => ?_
   refine stepM hK 31 3 (by kernel_rfl) (.inl rfl) rfl fun a hK => ?_
   refine stepM hK 32 4 (by kernel_rfl) (.inl rfl) rfl fun a hK => ?_
   have hc13m : Mem w0 _ (G q5 ++ ([.row b3 36 (cE t2)] ++ F)) := (hM.perm (perm_mid [.row b3 36 (cE t2)] (G q5) F))
   have hc13 := ih t2.ks [] t2.A t2.c none 0 (d + 1) (exsSz (es.drop (i + 1)) + (smsSz ss + k)) q5 ([.row b3 36 (cE t2)] ++ F) _ (by have h1 := exsSz_mem (List.mem_of_getElem? ht2); have h2 := sz_eq t2; simp only [smsSz]; omega) (by omega) (fun s F w h => ⟨(ct2 s F w h).2.kids, fun k x hx => by simp at hx⟩) (ex_sh (exsSh_mem hs1 (List.mem_of_getElem? ht2))).2 rfl hc13m (ok_eq (hE.next hR.2.2 (k := (exsSz t2.ks + (exsSz (es.drop (i + 1)) + (smsSz ss + k)))) (by have h1 := exsSz_drop ht2; have h2 := sz_eq t2; omega) (pair_of hR6 (bt_of h9)).symm) (by simp only [smsSz]; omega))
   replace hc13 := hc13.mono (fun _ _ h => Gives.perm (g' := fun r : Bool × σ => [.row b3 36 (cE t2)] ++ (G r.2 ++ F)) (fun r => perm_mid2 [.row b3 36 (cE t2)] (G r.2) F) h)
   refine stepCallIn hK 33 #[.slice t2.A t2.ks.length t2.c, .slice none 0 0, .int .i64 (((d + 1) : Nat) : Int), .func (.func fe) #[] ce, .func (.func fs) #[] cs] (by kernel_rfl) (run_callE en_ast_walk rfl rfl (by kernel_rfl)) (hc13) ?_
   rintro ⟨r10, q11⟩ a w hR12 hK hM
   replace hM := hM.to (.row b3 36 (cE t2) :: (G q11 ++ F)) (by kernel_rfl)
   rcases Bool.eq_false_or_eq_true (!r10) with h15 | h15
   ·refine stepP hK 34 (.bool true) (by kernel_rfl) (okBool (b := (!r10)) (by kernel_rfl) h15) fun a hK => ?_
    refine stepP hK 35 (.bool true) (by kernel_rfl) (by kernel_rfl) fun a hK => ?_
    refine region_done hK [(35, .bool true), (12, pA b3 0), (18, .bool true), (16, .int .i64 ((es.length : Nat) : Int)), (15, .slice A es.length c), (10, .bool false), (0, .slice A es.length c), (1, .slice B ss.length e), (2, vN d), (3, .func (.func fe) #[] ce), (4, .func (.func fs) #[] cs), (17, vN i)] ⟨rfl, rfl, rfl, rfl, rfl, rfl, rfl, rfl, rfl, rfl, rfl, rfl, trivial⟩ fun a hK => ?_
    refine wp_cond_true (hK.get rfl) ?_
    refine wp_seq ?_
    refine region_go (lst := [0]) (by kernel_rfl) ?_
    refine stepP hK 10 (.bool false) (by kernel_rfl) (by kernel_rfl) fun a hK => ?_
    refine region_done hK [(10, .bool false), (35, .bool true), (12, pA b3 0), (18, .bool true), (16, .int .i64 ((es.length : Nat) : Int)), (15, .slice A es.length c), (0, .slice A es.length c), (1, .slice B ss.length e), (2, vN d), (3, .func (.func fe) #[] ce), (4, .func (.func fs) #[] cs), (17, vN i)] ⟨rfl, rfl, rfl, rfl, rfl, rfl, rfl, rfl, rfl, rfl, rfl, rfl, trivial⟩ fun a hK => ?_
    refine wp_ret ?_
    exact ret_t hK rfl (u := (.bool false)) rfl (⟨(false, q11), rfl, (hM.drop 1), (walkW_stop (exs_stop ht2 hR.2.1 (ex_kids (pair_of hR6 (bt_of h9)).symm ((walkW_e.symm.trans (pair_of hR12.1 (bf_of h15)).symm))))).symm, fun h => by cases h⟩)
   ·refine stepP hK 34 (.bool false) (by kernel_rfl) (okBool (b := (!r10)) (by kernel_rfl) h15) fun a hK => ?_
    refine stepP hK 35 (.bool false) (by kernel_rfl) (by kernel_rfl) fun a hK => ?_
    refine region_done hK [(35, .bool false), (12, pA b3 0), (18, .bool true), (16, .int .i64 ((es.length : Nat) : Int)), (15, .slice A es.length c), (10, .bool false), (0, .slice A es.length c), (1, .slice B ss.length e), (2, vN d), (3, .func (.func fe) #[] ce), (4, .func (.func fs) #[] cs), (17, vN i)] ⟨rfl, rfl, rfl, rfl, rfl, rfl, rfl, rfl, rfl, rfl, rfl, rfl, trivial⟩ fun a hK => ?_
    refine wp_cond_false (hK.get rfl) ?_
    refine wp_skip ?_
    refine region_go (lst := [0, 1]) (by kernel_rfl) ?_
    refine stepP hK 36 (.int .i64 (((i + 1) : Nat) : Int)) (by kernel_rfl) (run_addN (i := i) (j := 1) rfl rfl rfl (by omega)) fun a hK => ?_
    refine stepM hK 17 36 (by kernel_rfl) (.inl rfl) rfl fun a hK => ?_
    refine region_done hK [(17, .int .i64 (((i + 1) : Nat) : Int)), (35, .bool false), (12, pA b3 0), (18, .bool true), (16, .int .i64 ((es.length : Nat) : Int)), (15, .slice A es.length c), (10, .bool false), (0, .slice A es.length c), (1, .slice B ss.length e), (2, vN d), (3, .func (.func fe) #[] ce), (4, .func (.func fs) #[] cs)] ⟨rfl, rfl, rfl, rfl, rfl, rfl, rfl, rfl, rfl, rfl, rfl, rfl, trivial⟩ fun a hK => ?_
    have hRn : (i + 1) ≤ es.length ∧ exsWk f (es.drop (i + 1)) d q11 = exsWk f es d s ∧ ok (exsSz (es.drop (i + 1)) + (smsSz ss + k)) q11 := ⟨by omega, exs_next ht2 hR.2.1 (ex_kids (pair_of hR6 (bt_of h9)).symm ((walkW_e.symm.trans (pair_of hR12.1 (bt_of h15)).symm))), hR12.2 (bt_of h15)⟩
    have hmn : es.length - (i + 1) < es.length - i := by omega
    exact ⟨(i + 1, q11), hK.sub ⟨rfl, rfl, rfl, rfl, rfl, rfl, rfl, rfl, rfl, trivial⟩, (hM.drop 1), hRn, hmn⟩
 ·refine stepP hK 18 (.bool false) (by kernel_rfl) (okBool (b := (decide ((((i : Nat) : Int) : Int) < ((es.length : Nat) : Int)))) (by kernel_rfl) (decide_eq_false h1)) fun a hK => ?_
  refine region_done hK [(18, .bool false), (16, .int .i64 ((es.length : Nat) : Int)), (15, .slice A es.length c), (10, .bool false), (0, .slice A es.length c), (1, .slice B ss.length e), (2, vN d), (3, .func (.func fe) #[] ce), (4, .func (.func fs) #[] cs), (17, vN i)] ⟨rfl, rfl, rfl, rfl, rfl, rfl, rfl, rfl, rfl, rfl, trivial⟩ fun a hK => ?_
  refine wp_seq ?_
  refine wp_cond_false (hK.get rfl) ?_
  refine wp_exit (exit_then (exit_then (exit_here 0 ?_)))
  refine wp_seq ?_
  refine wp_seq ?_
  refine region_go (lst := [0, 1, 2]) (by kernel_rfl) ?_
  refine stepM hK 37 1 (by kernel_rfl) (.inl rfl) rfl fun a hK => ?_
  refine stepP hK 38 (.int .i64 ((ss.length : Nat) : Int)) (by kernel_rfl) (by kernel_rfl) fun a hK => ?_
  refine stepP hK 39 (.int .i64 0) (by kernel_rfl) (by kernel_rfl) fun a hK => ?_
  refine region_done hK [(39, .int .i64 0), (38, .int .i64 ((ss.length : Nat) : Int)), (37, .slice B ss.length e), (18, .bool false), (16, .int .i64 ((es.length : Nat) : Int)), (15, .slice A es.length c), (10, .bool false), (0, .slice A es.length c), (1, .slice B ss.length e), (2, vN d), (3, .func (.func fe) #[] ce), (4, .func (.func fs) #[] cs), (17, vN i)] ⟨rfl, rfl, rfl, rfl, rfl, rfl, rfl, rfl, rfl, rfl, rfl, rfl, rfl, trivial⟩ fun a hK => ?_
  refine wp_block ?_
  have he0 : exsWk f es d s = (true, s1) := by rw [← hR.2.1, exs_end (by omega)]
  have hei : exsSz (es.drop i) = 0 := exsSz_end (by omega)
  refine wp_loopX (fun x : Nat × σ => [(38, .int .i64 ((ss.length : Nat) : Int)), (37, .slice B ss.length e), (18, .bool false), (16, .int .i64 ((es.length : Nat) : Int)), (15, .slice A es.length c), (10, .bool false), (0, .slice A es.length c), (1, .slice B ss.length e), (2, vN d), (3, .func (.func fe) #[] ce), (4, .func (.func fs) #[] cs), (17, vN i), (39, .int .i64 ((x.1 : Nat) : Int))]) (fun x : Nat × σ => ((G x.2 ++ F))) (fun x : Nat × σ => x.1 ≤ ss.length ∧ smsWk f g (ss.drop x.1) d x.2 = walkW f g es ss d s ∧ ok (smsSz (ss.drop x.1) + k) x.2) (fun x : Nat × σ => ss.length - x.1) (0, s1) (hK.sub ⟨rfl, rfl, rfl, rfl, rfl, rfl, rfl, rfl, rfl, rfl, rfl, rfl, rfl, trivial⟩) hM ⟨Nat.zero_le _, (walkW_go he0).symm, ok_eq hR.2.2 (by rw [hei, List.drop_zero]; omega)⟩ ?_
  rintro ⟨j, s3⟩ a w hK hM hR
  replace hK : Knows a 71 [(38, .int .i64 ((ss.length : Nat) : Int)), (37, .slice B ss.length e), (18, .bool false), (16, .int .i64 ((es.length : Nat) : Int)), (15, .slice A es.length c), (10, .bool false), (0, .slice A es.length c), (1, .slice B ss.length e), (2, vN d), (3, .func (.func fe) #[] ce), (4, .func (.func fs) #[] cs), (17, vN i), (39, vN j)] := hK
  replace hM : Mem w0 w ((G s3 ++ F)) := hM
  replace hR : j ≤ ss.length ∧ smsWk f g (ss.drop j) d s3 = walkW f g es ss d s ∧ ok (smsSz (ss.drop j) + k) s3 := hR
  refine wp_seq ?_
  refine region_go (lst := [0]) (by kernel_rfl) ?_
  by_cases h16 : (((j : Nat) : Int) : Int) < ((ss.length : Nat) : Int)
  ·refine stepP hK 40 (.bool true) (by kernel_rfl) (okBool (b := (decide ((((j : Nat) : Int) : Int) < ((ss.length : Nat) : Int)))) (by kernel_rfl) (decide_eq_true h16)) fun a hK => ?_
   refine region_done hK [(40, .bool true), (38, .int .i64 ((ss.length : Nat) : Int)), (37, .slice B ss.length e), (18, .bool false), (16, .int .i64 ((es.length : Nat) : Int)), (15, .slice A es.length c), (10, .bool false), (0, .slice A es.length c), (1, .slice B ss.length e), (2, vN d), (3, .func (.func fe) #[] ce), (4, .func (.func fs) #[] cs), (17, vN i), (39, vN j)] ⟨rfl, rfl, rfl, rfl, rfl, rfl, rfl, rfl, rfl, rfl, rfl, rfl, rfl, rfl, trivial⟩ fun a hK => ?_
   refine wp_seq ?_
   refine wp_cond_true (hK.get rfl) ?_
   refine wp_skip ?_
   refine wp_seq ?_
   refine wp_block ?_
   refine wp_seq ?_
   refine region_go (lst := [0, 1, 2, 3]) (by kernel_rfl) ?_
   obtain ⟨t17, ht17⟩ : ∃ t, ss[(j : Nat)]? = some t := ⟨_, List.getElem?_eq_getElem (by omega)⟩
   obtain ⟨at17, At17, -⟩ := ((hT _ _ _ hM).2 _ _ ht17).1
   have ct17 : ∀ (s : σ) (F : List It) (w : World), Mem w0 w (G s ++ F) → CellsAt w (at17.add (j * 7)) (cS t17) ∧ SmAt w t17 := fun s F w h => by obtain ⟨⟨a2, h1, h2⟩, h3⟩ := (hT s F w h).2 _ _ ht17; rw [At17] at h1; obtain rfl := Option.some.inj h1; exact ⟨h2, h3⟩
   refine stepP hK 41 (.pointer (some (at17.add (j * 7)))) (by kernel_rfl) (run_ixA (k := j) (s := 7) rfl rfl At17 rfl Tryd.underlying28 (by kernel_rfl) (by omega)) fun a hK => ?_
   refine stepLoad hK 42 (vS t17) (by kernel_rfl) rfl rfl ((ct17 _ _ _ hM).1) (by kernel_rfl) fun a hK => ?_
   refine stepAlloc hK hM 14 30 [.int .i64 0, Str [], Str [], .int .i64 0, .slice none 0 0, .slice none 0 0, .slice none 0 0] (fun b => pA b 0) (by kernel_rfl) (by kernel_rfl) fun b18 a w hK hM => ?_
   refine stepStore hK hM 0 (cS t17) (by kernel_rfl) rfl rfl rfl rfl (by kernel_rfl) fun w hM => ?_
   replace hM := hM.to (.row b18 30 (cS t17) :: (G s3 ++ F)) (by kernel_rfl)
   refine region_done hK [(14, pA b18 0), (40, .bool true), (38, .int .i64 ((ss.length : Nat) : Int)), (37, .slice B ss.length e), (18, .bool false), (16, .int .i64 ((es.length : Nat) : Int)), (15, .slice A es.length c), (10, .bool false), (0, .slice A es.length c), (1, .slice B ss.length e), (2, vN d), (3, .func (.func fe) #[] ce), (4, .func (.func fs) #[] cs), (17, vN i), (39, vN j)] ⟨rfl, rfl, rfl, rfl, rfl, rfl, rfl, rfl, rfl, rfl, rfl, rfl, rfl, rfl, rfl, trivial⟩ fun a hK => ?_
   refine wp_seq ?_
   refine region_go (lst := [0, 1, 2, 3, 4, 5, 6, 7, 8, 9, 10, 11, 12, 13, 14, 15, 16, 17, 18, 19, 20, 21, 22, 23, 24, 25, 26]) (by kernel_rfl) ?_
   refine stepM hK 43 4 (by kernel_rfl) (.inl rfl) rfl fun a hK => ?_
   refine stepLoad hK 44 (vS t17) (by kernel_rfl) rfl rfl ((hM.row 0 rfl).cells 0 7) (by kernel_rfl) fun a hK => ?_
   refine stepM hK 45 2 (by kernel_rfl) (.inl rfl) rfl fun a hK => ?_
   have hc22m : Mem w0 _ (G s3 ++ ([.row b18 30 (cS t17)] ++ F)) := (hM.perm (perm_mid [.row b18 30 (cS t17)] (G s3) F))
   have hc22 := hS.call t17 d (exsSz t17.es + smsSz t17.th + (smsSz t17.el + (smsSz (ss.drop (j + 1)) + k))) s3 ([.row b18 30 (cS t17)] ++ F) _ hc22m (ct17 _ _ _ hc22m).2 (smsSh_mem hs2 (List.mem_of_getElem? ht17)) (by omega) (ok_eq hR.2.2 (by have h1 := smsSz_drop ht17; have h2 := sm_sz t17; omega))
   replace hc22 := hc22.mono (fun _ _ h => Gives.perm (g' := fun r : Bool × σ => [.row b18 30 (cS t17)] ++ (G r.2 ++ F)) (fun r => perm_mid2 [.row b18 30 (cS t17)] (G r.2) F) h)
   refine stepCallIn hK 46 _ (by kernel_rfl) (run_callE hS.enters rfl rfl (by kernel_rfl)) (hc22) ?_
   rintro ⟨r19, q20⟩ a w hR21 hK hM
   replace hM := hM.to (.row b18 30 (cS t17) :: (G q20 ++ F)) (by kernel_rfl)
   rcases Bool.eq_false_or_eq_true (!r19) with h24 | h24
   ·refine stepP hK 47 (.bool true) (by kernel_rfl) (okBool (b := (!r19)) (by kernel_rfl) h24) fun a hK => ?_
    refine stepM hK 48 47 (by kernel_rfl) (.inl rfl) rfl fun a hK => ?_
    refine stepN hK 49 (by kernel_rfl) fun a hK => ?_
    refine stepN hK 50 (by kernel_rfl) fun a hK => ?_
    refine stepN hK 51 (by kernel_rfl) fun a hK => ?_
    refine stepN hK 52 (by kernel_rfl) fun a hK => ?_
    refine stepN hK 53 (by kernel_rfl) fun a hK => ?_
    refine stepN hK 54 (by kernel_rfl) fun a hK => ?_
    refine stepN hK 55 (by kernel_rfl) fun a hK => ?_
    refine stepN hK 56 (by kernel_rfl) fun a hK => ?_
    refine stepN hK 57 (by kernel_rfl) fun a hK => ?_
    refine stepN hK 58 (by kernel_rfl) fun a hK => ?_
    refine stepP hK 59 (.bool true) (by kernel_rfl) (by kernel_rfl) fun a hK => ?_
    refine stepM hK 60 59 (by kernel_rfl) (.inl rfl) rfl fun a hK => ?_
    refine stepN hK 61 (by kernel_rfl) fun a hK => ?_
    refine stepN hK 62 (by kernel_rfl) fun a hK => ?_
    refine stepN hK 63 (by kernel_rfl) fun a hK => ?_
    refine stepN hK 64 (by kernel_rfl) fun a hK => ?_
    refine stepN hK 65 (by kernel_rfl) fun a hK => ?_
    refine stepN hK 66 (by kernel_rfl) fun a hK => ?_
    refine stepN hK 67 (by kernel_rfl) fun a hK => ?_
    refine stepN hK 68 (by kernel_rfl) fun a hK => ?_
    refine stepP hK 69 (.bool true) (by kernel_rfl) (by kernel_rfl) fun a hK => ?_
    refine region_done hK [(69, .bool true), (14, pA b18 0), (40, .bool true), (38, .int .i64 ((ss.length : Nat) : Int)), (37, .slice B ss.length e), (18, .bool false), (16, .int .i64 ((es.length : Nat) : Int)), (15, .slice A es.length c), (10, .bool false), (0, .slice A es.length c), (1, .slice B ss.length e), (2, vN d), (3, .func (.func fe) #[] ce), (4, .func (.func fs) #[] cs), (17, vN i), (39, vN j)] ⟨rfl, rfl, rfl, rfl, rfl, rfl, rfl, rfl, rfl, rfl, rfl, rfl, rfl, rfl, rfl, rfl, trivial⟩ fun a hK => ?_
    refine wp_cond_true (hK.get rfl) ?_
    refine wp_seq ?_
    refine region_go (lst := [0]) (by kernel_rfl) ?_
    refine stepP hK 10 (.bool false) (by kernel_rfl) (by kernel_rfl) fun a hK => ?_
    refine region_done hK [(10, .bool false), (69, .bool true), (14, pA b18 0), (40, .bool true), (38, .int .i64 ((ss.length : Nat) : Int)), (37, .slice B ss.length e), (18, .bool false), (16, .int .i64 ((es.length : Nat) : Int)), (15, .slice A es.length c), (0, .slice A es.length c), (1, .slice B ss.length e), (2, vN d), (3, .func (.func fe) #[] ce), (4, .func (.func fs) #[] cs), (17, vN i), (39, vN j)] ⟨rfl, rfl, rfl, rfl, rfl, rfl, rfl, rfl, rfl, rfl, rfl, rfl, rfl, rfl, rfl, rfl, trivial⟩ fun a hK => ?_
    refine wp_ret ?_
    exact ret_t hK rfl (u := (.bool false)) rfl (⟨(false, q20), rfl, (hM.drop 1), (sms_stop ht17 hR.2.1 (sm_stop1 (pair_of hR21 (bf_of h24)).symm)).symm, fun h => by cases h⟩)
   ·refine stepP hK 47 (.bool false) (by kernel_rfl) (okBool (b := (!r19)) (by kernel_rfl) h24) fun a hK => ?_
    refine stepM hK 48 47 (by kernel_rfl) (.inl rfl) rfl fun a hK => ?_
    refine stepP hK 49 (pA b18 4) (by kernel_rfl) (by kernel_rfl) fun a hK => ?_
    refine stepLoad hK 50 (.slice t17.A1 t17.es.length t17.c1) (by kernel_rfl) rfl rfl ((hM.row 0 rfl).cells 4 1) (by kernel_rfl) fun a hK => ?_
    refine stepP hK 51 (pA b18 5) (by kernel_rfl) (by kernel_rfl) fun a hK => ?_
    refine stepLoad hK 52 (.slice t17.A2 t17.th.length t17.c2) (by kernel_rfl) rfl rfl ((hM.row 0 rfl).cells 5 1) (by kernel_rfl) fun a hK => ?_
    refine stepM hK 53 2 (by kernel_rfl) (.inl rfl) rfl fun a hK => ?_
    refine stepP hK 54 (.int .i64 (((d + 1) : Nat) : Int)) (by kernel_rfl) (run_addN (i := d) (j := 1) rfl rfl rfl (by omega)) fun a hK => ?_
    refine stepM hK 55 3 (by kernel_rfl) (.inl rfl) rfl fun a hK => ?_
    refine stepM hK 56 4 (by kernel_rfl) (.inl rfl) rfl fun a hK => ?_
    have hc28m : Mem w0 _ (G q20 ++ ([.row b18 30 (cS t17)] ++ F)) := (hM.perm (perm_mid [.row b18 30 (cS t17)] (G q20) F))
    have hc28 := ih t17.es t17.th t17.A1 t17.c1 t17.A2 t17.c2 (d + 1) (smsSz t17.el + (smsSz (ss.drop (j + 1)) + k)) q20 ([.row b18 30 (cS t17)] ++ F) _ (by have h1 := smsSz_mem (List.mem_of_getElem? ht17); have h2 := sm_sz t17; omega) (by omega) (fun s F w h => ⟨(ct17 s F w h).2.exprs, (ct17 s F w h).2.thn⟩) (sm_sh (smsSh_mem hs2 (List.mem_of_getElem? ht17))).2.2.1 (sm_sh (smsSh_mem hs2 (List.mem_of_getElem? ht17))).2.2.2.1 hc28m (ok_eq (hS.next hR.2.2 (k := (exsSz t17.es + smsSz t17.th + (smsSz t17.el + (smsSz (ss.drop (j + 1)) + k)))) (by have h1 := smsSz_drop ht17; have h2 := sm_sz t17; omega) (pair_of hR21 (bt_of h24)).symm) (by omega))
    replace hc28 := hc28.mono (fun _ _ h => Gives.perm (g' := fun r : Bool × σ => [.row b18 30 (cS t17)] ++ (G r.2 ++ F)) (fun r => perm_mid2 [.row b18 30 (cS t17)] (G r.2) F) h)
    refine stepCallIn hK 57 #[.slice t17.A1 t17.es.length t17.c1, .slice t17.A2 t17.th.length t17.c2, .int .i64 (((d + 1) : Nat) : Int), .func (.func fe) #[] ce, .func (.func fs) #[] cs] (by kernel_rfl) (run_callE en_ast_walk rfl rfl (by kernel_rfl)) (hc28) ?_
    rintro ⟨r25, q26⟩ a w hR27 hK hM
    replace hM := hM.to (.row b18 30 (cS t17) :: (G q26 ++ F)) (by kernel_rfl)
    rcases Bool.eq_false_or_eq_true (!r25) with h30 | h30
    ·refine stepP hK 58 (.bool true) (by kernel_rfl) (okBool (b := (!r25)) (by kernel_rfl) h30) fun a hK => ?_
     refine stepP hK 59 (.bool true) (by kernel_rfl) (by kernel_rfl) fun a hK => ?_
     refine stepM hK 60 59 (by kernel_rfl) (.inl rfl) rfl fun a hK => ?_
     refine stepN hK 61 (by kernel_rfl) fun a hK => ?_
     refine stepN hK 62 (by kernel_rfl) fun a hK => ?_
     refine stepN hK 63 (by kernel_rfl) fun a hK => ?_
     refine stepN hK 64 (by kernel_rfl) fun a hK => ?_
     refine stepN hK 65 (by kernel_rfl) fun a hK => ?_
     refine stepN hK 66 (by kernel_rfl) fun a hK => ?_
     refine stepN hK 67 (by kernel_rfl) fun a hK => ?_
     refine stepN hK 68 (by kernel_rfl) fun a hK => ?_
     refine stepP hK 69 (.bool true) (by kernel_rfl) (by kernel_rfl) fun a hK => ?_
     refine region_done hK [(69, .bool true), (14, pA b18 0), (40, .bool true), (38, .int .i64 ((ss.length : Nat) : Int)), (37, .slice B ss.length e), (18, .bool false), (16, .int .i64 ((es.length : Nat) : Int)), (15, .slice A es.length c), (10, .bool false), (0, .slice A es.length c), (1, .slice B ss.length e), (2, vN d), (3, .func (.func fe) #[] ce), (4, .func (.func fs) #[] cs), (17, vN i), (39, vN j)] ⟨rfl, rfl, rfl, rfl, rfl, rfl, rfl, rfl, rfl, rfl, rfl, rfl, rfl, rfl, rfl, rfl, trivial⟩ fun a hK => ?_
     refine wp_cond_true (hK.get rfl) ?_
     refine wp_seq ?_
     refine region_go (lst := [0]) (by kernel_rfl) ?_
     refine stepP hK 10 (.bool false) (by kernel_rfl) (by kernel_rfl) fun a hK => ?_
     refine region_done hK [(10, .bool false), (69, .bool true), (14, pA b18 0), (40, .bool true), (38, .int .i64 ((ss.length : Nat) : Int)), (37, .slice B ss.length e), (18, .bool false), (16, .int .i64 ((es.length : Nat) : Int)), (15, .slice A es.length c), (0, .slice A es.length c), (1, .slice B ss.length e), (2, vN d), (3, .func (.func fe) #[] ce), (4, .func (.func fs) #[] cs), (17, vN i), (39, vN j)] ⟨rfl, rfl, rfl, rfl, rfl, rfl, rfl, rfl, rfl, rfl, rfl, rfl, rfl, rfl, rfl, rfl, trivial⟩ fun a hK => ?_
     refine wp_ret ?_
     exact ret_t hK rfl (u := (.bool false)) rfl (⟨(false, q26), rfl, (hM.drop 1), (sms_stop ht17 hR.2.1 (sm_th (pair_of hR21 (bt_of h24)).symm (pair_of hR27.1 (bf_of h30)).symm)).symm, fun h => by cases h⟩)
    ·refine stepP hK 58 (.bool false) (by kernel_rfl) (okBool (b := (!r25)) (by kernel_rfl) h30) fun a hK => ?_
     refine stepP hK 59 (.bool false) (by kernel_rfl) (by kernel_rfl) fun a hK => ?_
     refine stepM hK 60 59 (by kernel_rfl) (.inl rfl) rfl fun a hK => ?_
     refine stepP hK 61 (pA b18 6) (by kernel_rfl) (by kernel_rfl) fun a hK => ?_
     refine stepLoad hK 62 (.slice t17.A3 t17.el.length t17.c3) (by kernel_rfl) rfl rfl ((hM.row 0 rfl).cells 6 1) (by kernel_rfl) fun a hK => ?_
     refine stepM hK 63 2 (by kernel_rfl) (.inl rfl) rfl fun a hK => ?_
     refine stepP hK 64 (.int .i64 (((d + 1) : Nat) : Int)) (by kernel_rfl) (run_addN (i := d) (j := 1) rfl rfl rfl (by omega)) fun a hK => ?_
     refine stepM hK 65 3 (by kernel_rfl) (.inl rfl) rfl fun a hK => ?_
     refine stepM hK 66 4 (by kernel_rfl) (.inl rfl) rfl fun a hK => ?_
     have hc34m : Mem w0 _ (G q26 ++ ([.row b18 30 (cS t17)] ++ F)) := (hM.perm (perm_mid [.row b18 30 (cS t17)] (G q26) F))
     have hc34 := ih [] t17.el none 0 t17.A3 t17.c3 (d + 1) (smsSz (ss.drop (j + 1)) + k) q26 ([.row b18 30 (cS t17)] ++ F) _ (by have h1 := smsSz_mem (List.mem_of_getElem? ht17); have h2 := sm_sz t17; simp only [exsSz]; omega) (by omega) (fun s F w h => ⟨fun k x hx => by simp at hx, (ct17 s F w h).2.els⟩) rfl (sm_sh (smsSh_mem hs2 (List.mem_of_getElem? ht17))).2.2.2.2 hc34m (ok_eq (hR27.2 (bt_of h30)) (by simp only [exsSz]; omega))
     replace hc34 := hc34.mono (fun _ _ h => Gives.perm (g' := fun r : Bool × σ => [.row b18 30 (cS t17)] ++ (G r.2 ++ F)) (fun r => perm_mid2 [.row b18 30 (cS t17)] (G r.2) F) h)
     refine stepCallIn hK 67 #[.slice none 0 0, .slice t17.A3 t17.el.length t17.c3, .int .i64 (((d + 1) : Nat) : Int), .func (.func fe) #[] ce, .func (.func fs) #[] cs] (by kernel_rfl) (run_callE en_ast_walk rfl rfl (by kernel_rfl)) (hc34) ?_
     rintro ⟨r31, q32⟩ a w hR33 hK hM
     replace hM := hM.to (.row b18 30 (cS t17) :: (G q32 ++ F)) (by kernel_rfl)
     rcases Bool.eq_false_or_eq_true (!r31) with h36 | h36
     ·refine stepP hK 68 (.bool true) (by kernel_rfl) (okBool (b := (!r31)) (by kernel_rfl) h36) fun a hK => ?_
      refine stepP hK 69 (.bool true) (by kernel_rfl) (by kernel_rfl) fun a hK => ?_
      refine region_done hK [(69, .bool true), (14, pA b18 0), (40, .bool true), (38, .int .i64 ((ss.length : Nat) : Int)), (37, .slice B ss.length e), (18, .bool false), (16, .int .i64 ((es.length : Nat) : Int)), (15, .slice A es.length c), (10, .bool false), (0, .slice A es.length c), (1, .slice B ss.length e), (2, vN d), (3, .func (.func fe) #[] ce), (4, .func (.func fs) #[] cs), (17, vN i), (39, vN j)] ⟨rfl, rfl, rfl, rfl, rfl, rfl, rfl, rfl, rfl, rfl, rfl, rfl, rfl, rfl, rfl, rfl, trivial⟩ fun a hK => ?_
      refine wp_cond_true (hK.get rfl) ?_
      refine wp_seq ?_
      refine region_go (lst := [0]) (by kernel_rfl) ?_
      refine stepP hK 10 (.bool false) (by kernel_rfl) (by kernel_rfl) fun a hK => ?_
      refine region_done hK [(10, .bool false), (69, .bool true), (14, pA b18 0), (40, .bool true), (38, .int .i64 ((ss.length : Nat) : Int)), (37, .slice B ss.length e), (18, .bool false), (16, .int .i64 ((es.length : Nat) : Int)), (15, .slice A es.length c), (0, .slice A es.length c), (1, .slice B ss.length e), (2, vN d), (3, .func (.func fe) #[] ce), (4, .func (.func fs) #[] cs), (17, vN i), (39, vN j)] ⟨rfl, rfl, rfl, rfl, rfl, rfl, rfl, rfl, rfl, rfl, rfl, rfl, rfl, rfl, rfl, rfl, trivial⟩ fun a hK => ?_
      refine wp_ret ?_
      exact ret_t hK rfl (u := (.bool false)) rfl (⟨(false, q32), rfl, (hM.drop 1), (sms_stop ht17 hR.2.1 (sm_el (pair_of hR21 (bt_of h24)).symm (pair_of hR27.1 (bt_of h30)).symm (walkW_s.symm.trans (pair_of hR33.1 (bf_of h36)).symm))).symm, fun h => by cases h⟩)
     ·refine stepP hK 68 (.bool false) (by kernel_rfl) (okBool (b := (!r31)) (by kernel_rfl) h36) fun a hK => ?_
      refine stepP hK 69 (.bool false) (by kernel_rfl) (by kernel_rfl) fun a hK => ?_
      refine region_done hK [(69, .bool false), (14, pA b18 0), (40, .bool true), (38, .int .i64 ((ss.length : Nat) : Int)), (37, .slice B ss.length e), (18, .bool false), (16, .int .i64 ((es.length : Nat) : Int)), (15, .slice A es.length c), (10, .bool false), (0, .slice A es.length c), (1, .slice B ss.length e), (2, vN d), (3, .func (.func fe) #[] ce), (4, .func (.func fs) #[] cs), (17, vN i), (39, vN j)] ⟨rfl, rfl, rfl, rfl, rfl, rfl, rfl, rfl, rfl, rfl, rfl, rfl, rfl, rfl, rfl, rfl, trivial⟩ fun a hK => ?_
      refine wp_cond_false (hK.get rfl) ?_
      refine wp_skip ?_
      refine region_go (lst := [0, 1]) (by kernel_rfl) ?_
      refine stepP hK 70 (.int .i64 (((j + 1) : Nat) : Int)) (by kernel_rfl) (run_addN (i := j) (j := 1) rfl rfl rfl (by omega)) fun a hK => ?_
      refine stepM hK 39 70 (by kernel_rfl) (.inl rfl) rfl fun a hK => ?_
      refine region_done hK [(39, .int .i64 (((j + 1) : Nat) : Int)), (69, .bool false), (14, pA b18 0), (40, .bool true), (38, .int .i64 ((ss.length : Nat) : Int)), (37, .slice B ss.length e), (18, .bool false), (16, .int .i64 ((es.length : Nat) : Int)), (15, .slice A es.length c), (10, .bool false), (0, .slice A es.length c), (1, .slice B ss.length e), (2, vN d), (3, .func (.func fe) #[] ce), (4, .func (.func fs) #[] cs), (17, vN i)] ⟨rfl, rfl, rfl, rfl, rfl, rfl, rfl, rfl, rfl, rfl, rfl, rfl, rfl, rfl, rfl, rfl, trivial⟩ fun a hK => ?_
      have hRn : (j + 1) ≤ ss.length ∧ smsWk f g (ss.drop (j + 1)) d q32 = walkW f g es ss d s ∧ ok (smsSz (ss.drop (j + 1)) + k) q32 := ⟨by omega, sms_next ht17 hR.2.1 (sm_el (pair_of hR21 (bt_of h24)).symm (pair_of hR27.1 (bt_of h30)).symm (walkW_s.symm.trans (pair_of hR33.1 (bt_of h36)).symm)), hR33.2 (bt_of h36)⟩
      have hmn : ss.length - (j + 1) < ss.length - j := by omega
      exact ⟨(j + 1, q32), hK.sub ⟨rfl, rfl, rfl, rfl, rfl, rfl, rfl, rfl, rfl, rfl, rfl, rfl, rfl, trivial⟩, (hM.drop 1), hRn, hmn⟩
  ·refine stepP hK 40 (.bool false) (by kernel_rfl) (okBool (b := (decide ((((j : Nat) : Int) : Int) < ((ss.length : Nat) : Int)))) (by kernel_rfl) (decide_eq_false h16)) fun a hK => ?_
   refine region_done hK [(40, .bool false), (38, .int .i64 ((ss.length : Nat) : Int)), (37, .slice B ss.length e), (18, .bool false), (16, .int .i64 ((es.length : Nat) : Int)), (15, .slice A es.length c), (10, .bool false), (0, .slice A es.length c), (1, .slice B ss.length e), (2, vN d), (3, .func (.func fe) #[] ce), (4, .func (.func fs) #[] cs), (17, vN i), (39, vN j)] ⟨rfl, rfl, rfl, rfl, rfl, rfl, rfl, rfl, rfl, rfl, rfl, rfl, rfl, rfl, trivial⟩ fun a hK => ?_
   refine wp_seq ?_
   refine wp_cond_false (hK.get rfl) ?_
   refine wp_exit (exit_then (exit_then (exit_here 2 ?_)))
   refine wp_seq ?_
   refine region_go (lst := [0]) (by kernel_rfl) ?_
   refine stepP hK 10 (.bool true) (by kernel_rfl) (by kernel_rfl) fun a hK => ?_
   refine region_done hK [(10, .bool true), (40, .bool false), (38, .int .i64 ((ss.length : Nat) : Int)), (37, .slice B ss.length e), (18, .bool false), (16, .int .i64 ((es.length : Nat) : Int)), (15, .slice A es.length c), (0, .slice A es.length c), (1, .slice B ss.length e), (2, vN d), (3, .func (.func fe) #[] ce), (4, .func (.func fs) #[] cs), (17, vN i), (39, vN j)] ⟨rfl, rfl, rfl, rfl, rfl, rfl, rfl, rfl, rfl, rfl, rfl, rfl, rfl, rfl, trivial⟩ fun a hK => ?_
   refine wp_ret ?_
   exact ret_t hK rfl (u := (.bool true)) rfl (⟨(true, s3), rfl, hM, (hR.2.1.symm.trans (sms_end (by omega))).symm, fun _ => ok_eq hR.2.2 (by rw [smsSz_end (by omega)]; omega)⟩)
theorem ast_walk {σ : Type} {w0 : World} {G : σ → List It} {ok : Nat → σ → Prop} {f : Ex → Nat → σ → Bool × σ} {g : Sm → Nat → σ → Bool × σ} {fe fs : FuncId} {ce cs : Array Value} (hE : StepE w0 G ok f fe ce) (hS : StepS w0 G ok g fs cs) (es : List Ex) (ss : List Sm) (A : Option Addr) (c : Nat) (B : Option Addr) (e d k : Nat) (s : σ) (F : List It) (w1 : World) (hsz : d + (exsSz es + smsSz ss) < 1000000) (hT : ∀ (s : σ) (F : List It) (w : World), Mem w0 w (G s ++ F) → ExsAt w A es ∧ SmsAt w B ss) (h1 : exsSh es = true) (h2 : smsSh ss = true) (hM0 : Mem w0 w1 (G s ++ F)) (hok : ok (exsSz es + smsSz ss + k) s) : Calls Tryd.prog 33 #[.slice A es.length c, .slice B ss.length e, vN d, .func (.func fe) #[] ce, .func (.func fs) #[] cs] w1 (Gives w0 (fun r : Bool × σ => .bool r.1) (fun r => G r.2 ++ F) fun r => r = walkW f g es ss d s ∧ (r.1 = true → ok k r.2)) :=
 ast_walk_n hE hS _ es ss A c B e d k s F w1 (Nat.lt_succ_self _) (by omega) hT h1 h2 hM0 hok
end Go.Proofs.YtiigncmpbkfhmaaDoor
namespace Go.Proofs.YtiigncmpbkfhmaaDoor
open Go Go.RowKit
theorem en_ast_walkThreads : Enters Tryd.prog 29 := enters_of Tryd.func29 (by kernel_rfl) rfl
set_option maxRecDepth 100000 in
set_option maxHeartbeats 4000000 in
theorem ast_walkThreads {σ : Type} {w0 : World} {G : σ → List It} {ok : Nat → σ → Prop} {f : Ex → Nat → σ → Bool × σ} {g : Sm → Nat → σ → Bool × σ} {fe fs : FuncId} {ce cs : Array Value} (hE : StepE w0 G ok f fe ce) (hS : StepS w0 G ok g fs cs) (p : Pg) (k : Nat) (s : σ) (F : List It) (w1 : World) (hp : PgAt w0 p) (hsz : thsSz p.ts ≤ 900000) (hsh : pgSh p = true) (hM0 : Mem w0 w1 (G s ++ F)) (hok : ok (thsSz p.ts + k) s) : Calls Tryd.prog 29 #[vG p, .func (.func fe) #[] ce, .func (.func fs) #[] cs] w1 (Gives w0 (fun r : Bool × σ => .bool r.1) (fun r => G r.2 ++ F) fun r => r = thsWk f g p.ts s ∧ (r.1 = true → ok k r.2)) := by
 have hpl := hp.len
 obtain ⟨hshD, hshT⟩ := pg_sh hsh
 refine calls_KM (args := [vG p, .func (.func fe) #[] ce, .func (.func fs) #[] cs]) (n := 22) (env := [(0, vG p), (1, .func (.func fe) #[] ce), (2, .func (.func fs) #[] cs)]) Tryd.func29 rfl rfl rfl ⟨rfl, rfl, rfl, trivial⟩ hM0 fun a w hK hM => ?_
 refine wp_seq ?_
 refine region_go (lst := [0, 1]) (by kernel_rfl) ?_
 refine stepAlloc hK hM 3 25 [.slice p.A1 p.ds.length p.c1, .slice p.A2 p.ts.length p.c2] (fun b => pA b 0) (by kernel_rfl) (by kernel_rfl) fun b1 a w hK hM => ?_
 refine stepP hK 6 (.bool false) (by kernel_rfl) (by kernel_rfl) fun a hK => ?_
 refine region_done hK [(6, .bool false), (3, pA b1 0), (0, vG p), (1, .func (.func fe) #[] ce), (2, .func (.func fs) #[] cs)] ⟨rfl, rfl, rfl, rfl, rfl, trivial⟩ fun a hK => ?_
 refine wp_seq ?_
 refine wp_seq ?_
 refine region_go (lst := [0, 1, 2, 3]) (by kernel_rfl) ?_
 refine stepP hK 9 (pA b1 1) (by kernel_rfl) (by kernel_rfl) fun a hK => ?_
 refine stepLoad hK 10 (.slice p.A2 p.ts.length p.c2) (by kernel_rfl) rfl rfl ((hM.row 0 rfl).cells 1 1) (by kernel_rfl) fun a hK => ?_
 refine stepP hK 11 (.int .i64 ((p.ts.length : Nat) : Int)) (by kernel_rfl) (by kernel_rfl) fun a hK => ?_
 refine stepP hK 12 (.int .i64 0) (by kernel_rfl) (by kernel_rfl) fun a hK => ?_
 refine region_done hK [(12, .int .i64 0), (11, .int .i64 ((p.ts.length : Nat) : Int)), (10, .slice p.A2 p.ts.length p.c2), (6, .bool false), (3, pA b1 0), (0, vG p), (1, .func (.func fe) #[] ce), (2, .func (.func fs) #[] cs)] ⟨rfl, rfl, rfl, rfl, rfl, rfl, rfl, rfl, trivial⟩ fun a hK => ?_
 refine wp_block ?_
 refine wp_loopX (fun x : Nat × σ => [(11, .int .i64 ((p.ts.length : Nat) : Int)), (10, .slice p.A2 p.ts.length p.c2), (6, .bool false), (3, pA b1 0), (0, vG p), (1, .func (.func fe) #[] ce), (2, .func (.func fs) #[] cs), (12, .int .i64 ((x.1 : Nat) : Int))]) (fun x : Nat × σ => (.row b1 25 [.slice p.A1 p.ds.length p.c1, .slice p.A2 p.ts.length p.c2] :: (G x.2 ++ F))) (fun x : Nat × σ => x.1 ≤ p.ts.length ∧ thsWk f g (p.ts.drop x.1) x.2 = thsWk f g p.ts s ∧ ok (thsSz (p.ts.drop x.1) + k) x.2) (fun x : Nat × σ => p.ts.length - x.1) (0, s) (hK.sub ⟨rfl, rfl, rfl, rfl, rfl, rfl, rfl, rfl, trivial⟩) hM ⟨Nat.zero_le _, rfl, ok_eq hok (by rw [List.drop_zero])⟩ ?_
 rintro ⟨i, s1⟩ a w hK hM hR
 replace hK : Knows a 22 [(11, .int .i64 ((p.ts.length : Nat) : Int)), (10, .slice p.A2 p.ts.length p.c2), (6, .bool false), (3, pA b1 0), (0, vG p), (1, .func (.func fe) #[] ce), (2, .func (.func fs) #[] cs), (12, vN i)] := hK
 replace hM : Mem w0 w (.row b1 25 [.slice p.A1 p.ds.length p.c1, .slice p.A2 p.ts.length p.c2] :: (G s1 ++ F)) := hM
 replace hR : i ≤ p.ts.length ∧ thsWk f g (p.ts.drop i) s1 = thsWk f g p.ts s ∧ ok (thsSz (p.ts.drop i) + k) s1 := hR
 refine wp_seq ?_
 refine region_go (lst := [0]) (by kernel_rfl) ?_
 by_cases h2 : (((i : Nat) : Int) : Int) < ((p.ts.length : Nat) : Int)
 ·refine stepP hK 13 (.bool true) (by kernel_rfl) (okBool (b := (decide ((((i : Nat) : Int) : Int) < ((p.ts.length : Nat) : Int)))) (by kernel_rfl) (decide_eq_true h2)) fun a hK => ?_
  refine region_done hK [(13, .bool true), (11, .int .i64 ((p.ts.length : Nat) : Int)), (10, .slice p.A2 p.ts.length p.c2), (6, .bool false), (3, pA b1 0), (0, vG p), (1, .func (.func fe) #[] ce), (2, .func (.func fs) #[] cs), (12, vN i)] ⟨rfl, rfl, rfl, rfl, rfl, rfl, rfl, rfl, rfl, trivial⟩ fun a hK => ?_
  refine wp_seq ?_
  refine wp_cond_true (hK.get rfl) ?_
  refine wp_skip ?_
  refine wp_seq ?_
  refine wp_block ?_
  refine wp_seq ?_
  refine region_go (lst := [0, 1, 2]) (by kernel_rfl) ?_
  obtain ⟨t3, ht3⟩ : ∃ t, p.ts[(i : Nat)]? = some t := ⟨_, List.getElem?_eq_getElem (by omega)⟩
  obtain ⟨⟨at3, At3, ct3⟩, et3⟩ := hp.threads _ _ ht3; have nt3 := et3.2
  refine stepP hK 14 (.pointer (some (at3.add (i * 1)))) (by kernel_rfl) (run_ixA (k := i) (s := 1) rfl rfl At3 rfl Tryd.underlying23 (by kernel_rfl) (by omega)) fun a hK => ?_
  refine stepLoad hK 15 (.slice t3.A t3.l.length t3.c) (by kernel_rfl) rfl rfl ((ct3.on hM.below)) (by kernel_rfl) fun a hK => ?_
  refine stepM hK 8 15 (by kernel_rfl) (.inr rfl) rfl fun a hK => ?_
  refine region_done hK [(8, .slice t3.A t3.l.length t3.c), (13, .bool true), (11, .int .i64 ((p.ts.length : Nat) : Int)), (10, .slice p.A2 p.ts.length p.c2), (6, .bool false), (3, pA b1 0), (0, vG p), (1, .func (.func fe) #[] ce), (2, .func (.func fs) #[] cs), (12, vN i)] ⟨rfl, rfl, rfl, rfl, rfl, rfl, rfl, rfl, rfl, rfl, trivial⟩ fun a hK => ?_
  refine wp_seq ?_
  refine region_go (lst := [0, 1, 2, 3, 4]) (by kernel_rfl) ?_
  refine stepM hK 16 8 (by kernel_rfl) (.inl rfl) rfl fun a hK => ?_
  refine stepM hK 17 1 (by kernel_rfl) (.inl rfl) rfl fun a hK => ?_
  refine stepM hK 18 2 (by kernel_rfl) (.inl rfl) rfl fun a hK => ?_
  have hc7m : Mem w0 _ (G s1 ++ ([.row b1 25 [.slice p.A1 p.ds.length p.c1, .slice p.A2 p.ts.length p.c2]] ++ F)) := (hM.perm (perm_mid [.row b1 25 [.slice p.A1 p.ds.length p.c1, .slice p.A2 p.ts.length p.c2]] (G s1) F))
  have hc7 := ast_walk hE hS [] t3.l none 0 t3.A t3.c 1 (thsSz (p.ts.drop (i + 1)) + k) s1 ([.row b1 25 [.slice p.A1 p.ds.length p.c1, .slice p.A2 p.ts.length p.c2]] ++ F) _ (by have h1 := thsSz_mem ht3; simp only [exsSz]; omega) (fun s F w h => ⟨fun k x hx => by simp at hx, et3.1.on h.below⟩) rfl (hshT _ (List.mem_of_getElem? ht3)) hc7m (ok_eq hR.2.2 (by have h1 := thsSz_drop ht3; simp only [exsSz]; omega))
  replace hc7 := hc7.mono (fun _ _ h => Gives.perm (g' := fun r : Bool × σ => [.row b1 25 [.slice p.A1 p.ds.length p.c1, .slice p.A2 p.ts.length p.c2]] ++ (G r.2 ++ F)) (fun r => perm_mid2 [.row b1 25 [.slice p.A1 p.ds.length p.c1, .slice p.A2 p.ts.length p.c2]] (G r.2) F) h)
  refine stepCallIn hK 19 #[.slice none 0 0, .slice t3.A t3.l.length t3.c, .int .i64 1, .func (.func fe) #[] ce, .func (.func fs) #[] cs] (by kernel_rfl) (run_callE en_ast_walk rfl rfl (by kernel_rfl)) (hc7) ?_
  rintro ⟨r4, q5⟩ a w hR6 hK hM
  replace hM := hM.to (.row b1 25 [.slice p.A1 p.ds.length p.c1, .slice p.A2 p.ts.length p.c2] :: (G q5 ++ F)) (by kernel_rfl)
  rcases Bool.eq_false_or_eq_true (!r4) with h9 | h9
  ·refine stepP hK 20 (.bool true) (by kernel_rfl) (okBool (b := (!r4)) (by kernel_rfl) h9) fun a hK => ?_
   refine region_done hK [(20, .bool true), (8, .slice t3.A t3.l.length t3.c), (13, .bool true), (11, .int .i64 ((p.ts.length : Nat) : Int)), (10, .slice p.A2 p.ts.length p.c2), (6, .bool false), (3, pA b1 0), (0, vG p), (1, .func (.func fe) #[] ce), (2, .func (.func fs) #[] cs), (12, vN i)] ⟨rfl, rfl, rfl, rfl, rfl, rfl, rfl, rfl, rfl, rfl, rfl, trivial⟩ fun a hK => ?_
   refine wp_cond_true (hK.get rfl) ?_
   refine wp_seq ?_
   refine region_go (lst := [0]) (by kernel_rfl) ?_
   refine stepP hK 6 (.bool false) (by kernel_rfl) (by kernel_rfl) fun a hK => ?_
   refine region_done hK [(6, .bool false), (20, .bool true), (8, .slice t3.A t3.l.length t3.c), (13, .bool true), (11, .int .i64 ((p.ts.length : Nat) : Int)), (10, .slice p.A2 p.ts.length p.c2), (3, pA b1 0), (0, vG p), (1, .func (.func fe) #[] ce), (2, .func (.func fs) #[] cs), (12, vN i)] ⟨rfl, rfl, rfl, rfl, rfl, rfl, rfl, rfl, rfl, rfl, rfl, trivial⟩ fun a hK => ?_
   refine wp_ret ?_
   exact ret_t hK rfl (u := (.bool false)) rfl (⟨(false, q5), rfl, (hM.drop 1), (ths_stop ht3 hR.2.1 (walkW_s.symm.trans (pair_of hR6.1 (bf_of h9)).symm)).symm, fun h => by cases h⟩)
  ·refine stepP hK 20 (.bool false) (by kernel_rfl) (okBool (b := (!r4)) (by kernel_rfl) h9) fun a hK => ?_
   refine region_done hK [(20, .bool false), (8, .slice t3.A t3.l.length t3.c), (13, .bool true), (11, .int .i64 ((p.ts.length : Nat) : Int)), (10, .slice p.A2 p.ts.length p.c2), (6, .bool false), (3, pA b1 0), (0, vG p), (1, .func (.func fe) #[] ce), (2, .func (.func fs) #[] cs), (12, vN i)] ⟨rfl, rfl, rfl, rfl, rfl, rfl, rfl, rfl, rfl, rfl, rfl, trivial⟩ fun a hK => ?_
   refine wp_cond_false (hK.get rfl) ?_
   refine wp_skip ?_
   refine region_go (lst := [0, 1]) (by kernel_rfl) ?_
   refine stepP hK 21 (.int .i64 (((i + 1) : Nat) : Int)) (by kernel_rfl) (run_addN (i := i) (j := 1) rfl rfl rfl (by omega)) fun a hK => ?_
   refine stepM hK 12 21 (by kernel_rfl) (.inl rfl) rfl fun a hK => ?_
   refine region_done hK [(12, .int .i64 (((i + 1) : Nat) : Int)), (20, .bool false), (8, .slice t3.A t3.l.length t3.c), (13, .bool true), (11, .int .i64 ((p.ts.length : Nat) : Int)), (10, .slice p.A2 p.ts.length p.c2), (6, .bool false), (3, pA b1 0), (0, vG p), (1, .func (.func fe) #[] ce), (2, .func (.func fs) #[] cs)] ⟨rfl, rfl, rfl, rfl, rfl, rfl, rfl, rfl, rfl, rfl, rfl, trivial⟩ fun a hK => ?_
   have hRn : (i + 1) ≤ p.ts.length ∧ thsWk f g (p.ts.drop (i + 1)) q5 = thsWk f g p.ts s ∧ ok (thsSz (p.ts.drop (i + 1)) + k) q5 := ⟨by omega, ths_next ht3 hR.2.1 (walkW_s.symm.trans (pair_of hR6.1 (bt_of h9)).symm), hR6.2 (bt_of h9)⟩
   have hmn : p.ts.length - (i + 1) < p.ts.length - i := by omega
   exact ⟨(i + 1, q5), hK.sub ⟨rfl, rfl, rfl, rfl, rfl, rfl, rfl, rfl, trivial⟩, hM, hRn, hmn⟩
 ·refine stepP hK 13 (.bool false) (by kernel_rfl) (okBool (b := (decide ((((i : Nat) : Int) : Int) < ((p.ts.length : Nat) : Int)))) (by kernel_rfl) (decide_eq_false h2)) fun a hK => ?_
  refine region_done hK [(13, .bool false), (11, .int .i64 ((p.ts.length : Nat) : Int)), (10, .slice p.A2 p.ts.length p.c2), (6, .bool false), (3, pA b1 0), (0, vG p), (1, .func (.func fe) #[] ce), (2, .func (.func fs) #[] cs), (12, vN i)] ⟨rfl, rfl, rfl, rfl, rfl, rfl, rfl, rfl, rfl, trivial⟩ fun a hK => ?_
  refine wp_seq ?_
  refine wp_cond_false (hK.get rfl) ?_
  refine wp_exit (exit_then (exit_then (exit_here 0 ?_)))
  refine wp_seq ?_
  refine region_go (lst := [0]) (by kernel_rfl) ?_
  refine stepP hK 6 (.bool true) (by kernel_rfl) (by kernel_rfl) fun a hK => ?_
  refine region_done hK [(6, .bool true), (13, .bool false), (11, .int .i64 ((p.ts.length : Nat) : Int)), (10, .slice p.A2 p.ts.length p.c2), (3, pA b1 0), (0, vG p), (1, .func (.func fe) #[] ce), (2, .func (.func fs) #[] cs), (12, vN i)] ⟨rfl, rfl, rfl, rfl, rfl, rfl, rfl, rfl, rfl, trivial⟩ fun a hK => ?_
  refine wp_ret ?_
  exact ret_t hK rfl (u := (.bool true)) rfl (⟨(true, s1), rfl, (hM.drop 1), (hR.2.1.symm.trans (ths_end (by omega))).symm, fun _ => ok_eq hR.2.2 (by rw [thsSz_end (by omega)]; omega)⟩)
end Go.Proofs.YtiigncmpbkfhmaaDoor
namespace Go.Proofs.YtiigncmpbkfhmaaDoor
open Go Go.RowKit
theorem en_ast_anyExpr_1 : Enters Tryd.prog 70 := enters_of Tryd.func70 (by kernel_rfl) rfl
theorem en_ast_anyStmt_1 : Enters Tryd.prog 71 := enters_of Tryd.func71 (by kernel_rfl) rfl
theorem en_ast_anyExpr : Enters Tryd.prog 35 := enters_of Tryd.func35 (by kernel_rfl) rfl
theorem en_ast_anyStmt : Enters Tryd.prog 36 := enters_of Tryd.func36 (by kernel_rfl) rfl
theorem en_ast_limits : Enters Tryd.prog 28 := enters_of Tryd.func28 (by kernel_rfl) rfl
theorem en_ast_limits_1 : Enters Tryd.prog 65 := enters_of Tryd.func65 (by kernel_rfl) rfl
theorem en_ast_Size_1 : Enters Tryd.prog 44 := enters_of Tryd.func44 (by kernel_rfl) rfl
theorem en_ast_Deep_1 : Enters Tryd.prog 34 := enters_of Tryd.func34 (by kernel_rfl) rfl
theorem en_ast_Size : Enters Tryd.prog 16 := enters_of Tryd.func16 (by kernel_rfl) rfl
theorem en_ast_Deep : Enters Tryd.prog 11 := enters_of Tryd.func11 (by kernel_rfl) rfl
set_option maxRecDepth 100000 in
set_option maxHeartbeats 4000000 in
theorem any_expr2 {σ : Type} {w0 : World} {G : σ → List It} {ok : Nat → σ → Prop} {h : Nat → σ → Bool × σ} {fd : FuncId} {cd : Array Value} (hD : StepD w0 G ok h fd cd) (bE bS : Nat) : StepE w0 (fun s => .row bE 61 [.func (.func fd) #[] cd] :: .row bS 61 [.func (.func fd) #[] cd] :: G s) ok (fun _ d s => h d s) 70 #[pA bE 0] := by
 refine ⟨en_ast_anyExpr_1, ?_, fun _ d k s h1 h2 => hD.ok d k s h1 h2⟩
 intro e d k s F w1 hM0 he hs hd hok
 replace hM0 : Mem w0 w1 ((.row bE 61 [.func (.func fd) #[] cd] :: .row bS 61 [.func (.func fd) #[] cd] :: (G s ++ F))) := hM0
 refine calls_KM (args := [vE e, vN d, pA bE 0]) (n := 9) (env := [(0, vE e), (1, vN d), (2, pA bE 0)]) Tryd.func70 rfl rfl rfl ⟨rfl, rfl, rfl, trivial⟩ hM0 fun a w hK hM => ?_
 refine wp_seq ?_
 refine region_go (lst := [0, 1]) (by kernel_rfl) ?_
 refine stepAlloc hK hM 3 36 (cE e) (fun b => pA b 0) (by kernel_rfl) (by kernel_rfl) fun b1 a w hK hM => ?_
 refine stepP hK 5 (.bool false) (by kernel_rfl) (by kernel_rfl) fun a hK => ?_
 refine region_done hK [(5, .bool false), (0, vE e), (1, vN d), (2, pA bE 0)] ⟨rfl, rfl, rfl, rfl, trivial⟩ fun a hK => ?_
 refine wp_seq ?_
 refine region_go (lst := [0, 1, 2, 3]) (by kernel_rfl) ?_
 refine stepLoad hK 6 (.func (.func fd) #[] cd) (by kernel_rfl) rfl rfl ((hM.row 1 rfl).cells 0 1) (by kernel_rfl) fun a hK => ?_
 refine stepM hK 7 1 (by kernel_rfl) (.inl rfl) rfl fun a hK => ?_
 have hc5m : Mem w0 _ (G s ++ ([.row b1 36 (cE e), .row bE 61 [.func (.func fd) #[] cd], .row bS 61 [.func (.func fd) #[] cd]] ++ F)) := (hM.perm (perm_mid [.row b1 36 (cE e), .row bE 61 [.func (.func fd) #[] cd], .row bS 61 [.func (.func fd) #[] cd]] (G s) F))
 have hc5 := hD.call d k s ([.row b1 36 (cE e), .row bE 61 [.func (.func fd) #[] cd], .row bS 61 [.func (.func fd) #[] cd]] ++ F) _ hc5m hd hok
 replace hc5 := hc5.mono (fun _ _ h => Gives.perm (g' := fun r : Bool × σ => [.row b1 36 (cE e), .row bE 61 [.func (.func fd) #[] cd], .row bS 61 [.func (.func fd) #[] cd]] ++ (G r.2 ++ F)) (fun r => perm_mid2 [.row b1 36 (cE e), .row bE 61 [.func (.func fd) #[] cd], .row bS 61 [.func (.func fd) #[] cd]] (G r.2) F) h)
 refine stepCallIn hK 8 _ (by kernel_rfl) (run_callE hD.enters rfl rfl (by kernel_rfl)) (hc5) ?_
 rintro ⟨r2, q3⟩ a w hR4 hK hM
 replace hM := hM.to (.row b1 36 (cE e) :: .row bE 61 [.func (.func fd) #[] cd] :: .row bS 61 [.func (.func fd) #[] cd] :: (G q3 ++ F)) (by kernel_rfl)
 rcases Bool.eq_false_or_eq_true r2 with h7 | h7
 ·refine stepP hK 5 (.bool true) (by kernel_rfl) (okBool (b := r2) (by kernel_rfl) h7) fun a hK => ?_
  refine region_done hK [(5, .bool true), (0, vE e), (1, vN d), (2, pA bE 0)] ⟨rfl, rfl, rfl, rfl, trivial⟩ fun a hK => ?_
  refine wp_ret ?_
  exact ret_t hK rfl (u := (.bool true)) rfl (⟨(true, q3), rfl, hM.drop 1, pair_of hR4 h7⟩)
 ·refine stepP hK 5 (.bool false) (by kernel_rfl) (okBool (b := r2) (by kernel_rfl) h7) fun a hK => ?_
  refine region_done hK [(5, .bool false), (0, vE e), (1, vN d), (2, pA bE 0)] ⟨rfl, rfl, rfl, rfl, trivial⟩ fun a hK => ?_
  refine wp_ret ?_
  exact ret_t hK rfl (u := (.bool false)) rfl (⟨(false, q3), rfl, hM.drop 1, pair_of hR4 h7⟩)
set_option maxRecDepth 100000 in
set_option maxHeartbeats 4000000 in
theorem any_stmt2 {σ : Type} {w0 : World} {G : σ → List It} {ok : Nat → σ → Prop} {h : Nat → σ → Bool × σ} {fd : FuncId} {cd : Array Value} (hD : StepD w0 G ok h fd cd) (bE bS : Nat) : StepS w0 (fun s => .row bE 61 [.func (.func fd) #[] cd] :: .row bS 61 [.func (.func fd) #[] cd] :: G s) ok (fun _ d s => h d s) 71 #[pA bS 0] := by
 refine ⟨en_ast_anyStmt_1, ?_, fun _ d k s h1 h2 => hD.ok d k s h1 h2⟩
 intro e d k s F w1 hM0 he hs hd hok
 replace hM0 : Mem w0 w1 ((.row bE 61 [.func (.func fd) #[] cd] :: .row bS 61 [.func (.func fd) #[] cd] :: (G s ++ F))) := hM0
 refine calls_KM (args := [vS e, vN d, pA bS 0]) (n := 9) (env := [(0, vS e), (1, vN d), (2, pA bS 0)]) Tryd.func71 rfl rfl rfl ⟨rfl, rfl, rfl, trivial⟩ hM0 fun a w hK hM => ?_
 refine wp_seq ?_
 refine region_go (lst := [0, 1]) (by kernel_rfl) ?_
 refine stepAlloc hK hM 3 30 (cS e) (fun b => pA b 0) (by kernel_rfl) (by kernel_rfl) fun b1 a w hK hM => ?_
 refine stepP hK 5 (.bool false) (by kernel_rfl) (by kernel_rfl) fun a hK => ?_
 refine region_done hK [(5, .bool false), (0, vS e), (1, vN d), (2, pA bS 0)] ⟨rfl, rfl, rfl, rfl, trivial⟩ fun a hK => ?_
 refine wp_seq ?_
 refine region_go (lst := [0, 1, 2, 3]) (by kernel_rfl) ?_
 refine stepLoad hK 6 (.func (.func fd) #[] cd) (by kernel_rfl) rfl rfl ((hM.row 2 rfl).cells 0 1) (by kernel_rfl) fun a hK => ?_
 refine stepM hK 7 1 (by kernel_rfl) (.inl rfl) rfl fun a hK => ?_
 have hc5m : Mem w0 _ (G s ++ ([.row b1 30 (cS e), .row bE 61 [.func (.func fd) #[] cd], .row bS 61 [.func (.func fd) #[] cd]] ++ F)) := (hM.perm (perm_mid [.row b1 30 (cS e), .row bE 61 [.func (.func fd) #[] cd], .row bS 61 [.func (.func fd) #[] cd]] (G s) F))
 have hc5 := hD.call d k s ([.row b1 30 (cS e), .row bE 61 [.func (.func fd) #[] cd], .row bS 61 [.func (.func fd) #[] cd]] ++ F) _ hc5m hd hok
 replace hc5 := hc5.mono (fun _ _ h => Gives.perm (g' := fun r : Bool × σ => [.row b1 30 (cS e), .row bE 61 [.func (.func fd) #[] cd], .row bS 61 [.func (.func fd) #[] cd]] ++ (G r.2 ++ F)) (fun r => perm_mid2 [.row b1 30 (cS e), .row bE 61 [.func (.func fd) #[] cd], .row bS 61 [.func (.func fd) #[] cd]] (G r.2) F) h)
 refine stepCallIn hK 8 _ (by kernel_rfl) (run_callE hD.enters rfl rfl (by kernel_rfl)) (hc5) ?_
 rintro ⟨r2, q3⟩ a w hR4 hK hM
 replace hM := hM.to (.row b1 30 (cS e) :: .row bE 61 [.func (.func fd) #[] cd] :: .row bS 61 [.func (.func fd) #[] cd] :: (G q3 ++ F)) (by kernel_rfl)
 rcases Bool.eq_false_or_eq_true r2 with h7 | h7
 ·refine stepP hK 5 (.bool true) (by kernel_rfl) (okBool (b := r2) (by kernel_rfl) h7) fun a hK => ?_
  refine region_done hK [(5, .bool true), (0, vS e), (1, vN d), (2, pA bS 0)] ⟨rfl, rfl, rfl, rfl, trivial⟩ fun a hK => ?_
  refine wp_ret ?_
  exact ret_t hK rfl (u := (.bool true)) rfl (⟨(true, q3), rfl, hM.drop 1, pair_of hR4 h7⟩)
 ·refine stepP hK 5 (.bool false) (by kernel_rfl) (okBool (b := r2) (by kernel_rfl) h7) fun a hK => ?_
  refine region_done hK [(5, .bool false), (0, vS e), (1, vN d), (2, pA bS 0)] ⟨rfl, rfl, rfl, rfl, trivial⟩ fun a hK => ?_
  refine wp_ret ?_
  exact ret_t hK rfl (u := (.bool false)) rfl (⟨(false, q3), rfl, hM.drop 1, pair_of hR4 h7⟩)
set_option maxRecDepth 100000 in
set_option maxHeartbeats 4000000 in
theorem any_expr1 {σ : Type} {w0 : World} {G : σ → List It} {ok : Nat → σ → Prop} {h : Nat → σ → Bool × σ} {fd : FuncId} {cd : Array Value} (hD : StepD w0 G ok h fd cd) (bE : Nat) : StepE w0 (fun s => .row bE 61 [.func (.func fd) #[] cd] :: G s) ok (fun _ d s => h d s) 70 #[pA bE 0] := by
 refine ⟨en_ast_anyExpr_1, ?_, fun _ d k s h1 h2 => hD.ok d k s h1 h2⟩
 intro e d k s F w1 hM0 he hs hd hok
 replace hM0 : Mem w0 w1 ((.row bE 61 [.func (.func fd) #[] cd] :: (G s ++ F))) := hM0
 refine calls_KM (args := [vE e, vN d, pA bE 0]) (n := 9) (env := [(0, vE e), (1, vN d), (2, pA bE 0)]) Tryd.func70 rfl rfl rfl ⟨rfl, rfl, rfl, trivial⟩ hM0 fun a w hK hM => ?_
 refine wp_seq ?_
 refine region_go (lst := [0, 1]) (by kernel_rfl) ?_
 refine stepAlloc hK hM 3 36 (cE e) (fun b => pA b 0) (by kernel_rfl) (by kernel_rfl) fun b1 a w hK hM => ?_
 refine stepP hK 5 (.bool false) (by kernel_rfl) (by kernel_rfl) fun a hK => ?_
 refine region_done hK [(5, .bool false), (0, vE e), (1, vN d), (2, pA bE 0)] ⟨rfl, rfl, rfl, rfl, trivial⟩ fun a hK => ?_
 refine wp_seq ?_
 refine region_go (lst := [0, 1, 2, 3]) (by kernel_rfl) ?_
 refine stepLoad hK 6 (.func (.func fd) #[] cd) (by kernel_rfl) rfl rfl ((hM.row 1 rfl).cells 0 1) (by kernel_rfl) fun a hK => ?_
 refine stepM hK 7 1 (by kernel_rfl) (.inl rfl) rfl fun a hK => ?_
 have hc5m : Mem w0 _ (G s ++ ([.row b1 36 (cE e), .row bE 61 [.func (.func fd) #[] cd]] ++ F)) := (hM.perm (perm_mid [.row b1 36 (cE e), .row bE 61 [.func (.func fd) #[] cd]] (G s) F))
 have hc5 := hD.call d k s ([.row b1 36 (cE e), .row bE 61 [.func (.func fd) #[] cd]] ++ F) _ hc5m hd hok
 replace hc5 := hc5.mono (fun _ _ h => Gives.perm (g' := fun r : Bool × σ => [.row b1 36 (cE e), .row bE 61 [.func (.func fd) #[] cd]] ++ (G r.2 ++ F)) (fun r => perm_mid2 [.row b1 36 (cE e), .row bE 61 [.func (.func fd) #[] cd]] (G r.2) F) h)
 refine stepCallIn hK 8 _ (by kernel_rfl) (run_callE hD.enters rfl rfl (by kernel_rfl)) (hc5) ?_
 rintro ⟨r2, q3⟩ a w hR4 hK hM
 replace hM := hM.to (.row b1 36 (cE e) :: .row bE 61 [.func (.func fd) #[] cd] :: (G q3 ++ F)) (by kernel_rfl)
 rcases Bool.eq_false_or_eq_true r2 with h7 | h7
 ·refine stepP hK 5 (.bool true) (by kernel_rfl) (okBool (b := r2) (by kernel_rfl) h7) fun a hK => ?_
  refine region_done hK [(5, .bool true), (0, vE e), (1, vN d), (2, pA bE 0)] ⟨rfl, rfl, rfl, rfl, trivial⟩ fun a hK => ?_
  refine wp_ret ?_
  exact ret_t hK rfl (u := (.bool true)) rfl (⟨(true, q3), rfl, hM.drop 1, pair_of hR4 h7⟩)
 ·refine stepP hK 5 (.bool false) (by kernel_rfl) (okBool (b := r2) (by kernel_rfl) h7) fun a hK => ?_
  refine region_done hK [(5, .bool false), (0, vE e), (1, vN d), (2, pA bE 0)] ⟨rfl, rfl, rfl, rfl, trivial⟩ fun a hK => ?_
  refine wp_ret ?_
  exact ret_t hK rfl (u := (.bool false)) rfl (⟨(false, q3), rfl, hM.drop 1, pair_of hR4 h7⟩)
set_option maxRecDepth 100000 in
set_option maxHeartbeats 4000000 in
theorem ast_anyExpr (fd : FuncId) (cd : Array Value) (w0 : World) : Calls Tryd.prog 35 #[.func (.func fd) #[] cd] w0 (Gives w0 (fun b : Nat => .func (.func 70) #[] #[pA b 0]) (fun b => [.row b 61 [.func (.func fd) #[] cd]]) fun _ => True) := by
 refine calls_K (args := [.func (.func fd) #[] cd]) (n := 4) (env := [(0, .func (.func fd) #[] cd)]) Tryd.func35 rfl rfl rfl ⟨rfl, trivial⟩ fun a w hK hM => ?_
 refine wp_seq ?_
 refine region_go (lst := [0, 1]) (by kernel_rfl) ?_
 refine stepAlloc hK hM 1 61 [.func (.func fd) #[] cd] (fun b => pA b 0) (by kernel_rfl) (by kernel_rfl) fun b1 a w hK hM => ?_
 refine stepP hK 2 (.nilFunc) (by kernel_rfl) (by kernel_rfl) fun a hK => ?_
 refine region_done hK [(2, .nilFunc), (1, pA b1 0), (0, .func (.func fd) #[] cd)] ⟨rfl, rfl, rfl, trivial⟩ fun a hK => ?_
 refine wp_seq ?_
 refine region_go (lst := [0, 1]) (by kernel_rfl) ?_
 refine stepP hK 3 (.func (.func 70) #[] #[pA b1 0]) (by kernel_rfl) (by kernel_rfl) fun a hK => ?_
 refine stepM hK 2 3 (by kernel_rfl) (.inr rfl) rfl fun a hK => ?_
 refine region_done hK [(2, .func (.func 70) #[] #[pA b1 0]), (1, pA b1 0), (0, .func (.func fd) #[] cd)] ⟨rfl, rfl, rfl, trivial⟩ fun a hK => ?_
 refine wp_ret ?_
 exact ret_t hK rfl (u := (.func (.func 70) #[] #[pA b1 0])) rfl (⟨b1, rfl, hM, trivial⟩)
set_option maxRecDepth 100000 in
set_option maxHeartbeats 4000000 in
theorem ast_anyStmt (fd : FuncId) (cd : Array Value) (w0 : World) : Calls Tryd.prog 36 #[.func (.func fd) #[] cd] w0 (Gives w0 (fun b : Nat => .func (.func 71) #[] #[pA b 0]) (fun b => [.row b 61 [.func (.func fd) #[] cd]]) fun _ => True) := by
 refine calls_K (args := [.func (.func fd) #[] cd]) (n := 4) (env := [(0, .func (.func fd) #[] cd)]) Tryd.func36 rfl rfl rfl ⟨rfl, trivial⟩ fun a w hK hM => ?_
 refine wp_seq ?_
 refine region_go (lst := [0, 1]) (by kernel_rfl) ?_
 refine stepAlloc hK hM 1 61 [.func (.func fd) #[] cd] (fun b => pA b 0) (by kernel_rfl) (by kernel_rfl) fun b1 a w hK hM => ?_
 refine stepP hK 2 (.nilFunc) (by kernel_rfl) (by kernel_rfl) fun a hK => ?_
 refine region_done hK [(2, .nilFunc), (1, pA b1 0), (0, .func (.func fd) #[] cd)] ⟨rfl, rfl, rfl, trivial⟩ fun a hK => ?_
 refine wp_seq ?_
 refine region_go (lst := [0, 1]) (by kernel_rfl) ?_
 refine stepP hK 3 (.func (.func 71) #[] #[pA b1 0]) (by kernel_rfl) (by kernel_rfl) fun a hK => ?_
 refine stepM hK 2 3 (by kernel_rfl) (.inr rfl) rfl fun a hK => ?_
 refine region_done hK [(2, .func (.func 71) #[] #[pA b1 0]), (1, pA b1 0), (0, .func (.func fd) #[] cd)] ⟨rfl, rfl, rfl, trivial⟩ fun a hK => ?_
 refine wp_ret ?_
 exact ret_t hK rfl (u := (.func (.func 71) #[] #[pA b1 0])) rfl (⟨b1, rfl, hM, trivial⟩)
set_option maxRecDepth 100000 in
set_option maxHeartbeats 4000000 in
theorem step_size (w0 : World) (bc : Nat) : StepD w0 (fun n : Nat => [.row bc 3 [vN n]]) okN sizeD 44 #[pA bc 0] := by
 refine ⟨en_ast_Size_1, ?_, fun d k s h1 _ => by unfold okN sizeD at *; simp only; omega⟩
 intro d k s F w1 hM0 hd hok
 replace hM0 : Mem w0 w1 ((.row bc 3 [vN s] :: F)) := hM0
 refine calls_KM (args := [vN d, pA bc 0]) (n := 6) (env := [(0, vN d), (1, pA bc 0)]) Tryd.func44 rfl rfl rfl ⟨rfl, rfl, trivial⟩ hM0 fun a w hK hM => ?_
 refine wp_seq ?_
 refine region_go (lst := [0]) (by kernel_rfl) ?_
 refine stepP hK 3 (.bool false) (by kernel_rfl) (by kernel_rfl) fun a hK => ?_
 refine region_done hK [(3, .bool false), (1, pA bc 0)] ⟨rfl, rfl, trivial⟩ fun a hK => ?_
 refine wp_seq ?_
 refine region_go (lst := [0, 1, 2]) (by kernel_rfl) ?_
 refine stepLoad hK 4 (vN s) (by kernel_rfl) rfl rfl ((hM.row 0 rfl).cells 0 1) (by kernel_rfl) fun a hK => ?_
 refine stepP hK 5 (.int .i64 (((s + 1) : Nat) : Int)) (by kernel_rfl) (run_addN (i := s) (j := 1) rfl rfl rfl (by unfold okN at hok; omega)) fun a hK => ?_
 refine stepStore hK hM 0 [.int .i64 (((s + 1) : Nat) : Int)] (by kernel_rfl) rfl rfl rfl rfl (by kernel_rfl) fun w hM => ?_
 replace hM := hM.to (.row bc 3 [.int .i64 (((s + 1) : Nat) : Int)] :: F) (by kernel_rfl)
 refine region_done hK [(3, .bool false), (1, pA bc 0)] ⟨rfl, rfl, trivial⟩ fun a hK => ?_
 refine wp_seq ?_
 refine region_go (lst := [0]) (by kernel_rfl) ?_
 refine stepP hK 3 (.bool true) (by kernel_rfl) (by kernel_rfl) fun a hK => ?_
 refine region_done hK [(3, .bool true), (1, pA bc 0)] ⟨rfl, rfl, trivial⟩ fun a hK => ?_
 refine wp_ret ?_
 exact ret_t hK rfl (u := (.bool true)) rfl (⟨(true, s + 1), rfl, hM, rfl⟩)
set_option maxRecDepth 100000 in
set_option maxHeartbeats 4000000 in
theorem step_deep (w0 : World) (bc : Nat) : StepD w0 (fun n : Nat => [.row bc 3 [vN n]]) okU deepD 34 #[pA bc 0] := by
 refine ⟨en_ast_Deep_1, ?_, fun _ _ _ _ _ => trivial⟩
 intro d k s F w1 hM0 hd hok
 replace hM0 : Mem w0 w1 ((.row bc 3 [vN s] :: F)) := hM0
 refine calls_KM (args := [vN d, pA bc 0]) (n := 7) (env := [(0, vN d), (1, pA bc 0)]) Tryd.func34 rfl rfl rfl ⟨rfl, rfl, trivial⟩ hM0 fun a w hK hM => ?_
 refine wp_seq ?_
 refine region_go (lst := [0]) (by kernel_rfl) ?_
 refine stepP hK 3 (.bool false) (by kernel_rfl) (by kernel_rfl) fun a hK => ?_
 refine region_done hK [(3, .bool false), (0, vN d), (1, pA bc 0)] ⟨rfl, rfl, rfl, trivial⟩ fun a hK => ?_
 refine wp_seq ?_
 refine region_go (lst := [0, 1, 2, 3]) (by kernel_rfl) ?_
 refine stepLoad hK 4 (vN s) (by kernel_rfl) rfl rfl ((hM.row 0 rfl).cells 0 1) (by kernel_rfl) fun a hK => ?_
 refine stepM hK 5 0 (by kernel_rfl) (.inl rfl) rfl fun a hK => ?_
 refine stepP hK 6 (.int .i64 (((max s d) : Nat) : Int)) (by kernel_rfl) (okVal (run_maxI rfl rfl rfl) (congrArg (Value.int .i64) (by omega))) fun a hK => ?_
 refine stepStore hK hM 0 [.int .i64 (((max s d) : Nat) : Int)] (by kernel_rfl) rfl rfl rfl rfl (by kernel_rfl) fun w hM => ?_
 replace hM := hM.to (.row bc 3 [.int .i64 (((max s d) : Nat) : Int)] :: F) (by kernel_rfl)
 refine region_done hK [(3, .bool false), (0, vN d), (1, pA bc 0)] ⟨rfl, rfl, rfl, trivial⟩ fun a hK => ?_
 refine wp_seq ?_
 refine region_go (lst := [0]) (by kernel_rfl) ?_
 refine stepP hK 3 (.bool true) (by kernel_rfl) (by kernel_rfl) fun a hK => ?_
 refine region_done hK [(3, .bool true), (0, vN d), (1, pA bc 0)] ⟨rfl, rfl, rfl, trivial⟩ fun a hK => ?_
 refine wp_ret ?_
 exact ret_t hK rfl (u := (.bool true)) rfl (⟨(true, max s d), rfl, hM, rfl⟩)
set_option maxRecDepth 100000 in
set_option maxHeartbeats 4000000 in
theorem step_lim (w0 : World) (bc : Nat) : StepD w0 (fun n : Nat => [.row bc 3 [vN n]]) okN limD 65 #[pA bc 0] := by
 refine ⟨en_ast_limits_1, ?_, fun d k s h1 _ => by unfold okN limD at *; simp only; omega⟩
 intro d k s F w1 hM0 hd hok
 replace hM0 : Mem w0 w1 ((.row bc 3 [vN s] :: F)) := hM0
 refine calls_KM (args := [vN d, pA bc 0]) (n := 12) (env := [(0, vN d), (1, pA bc 0)]) Tryd.func65 rfl rfl rfl ⟨rfl, rfl, trivial⟩ hM0 fun a w hK hM => ?_
 refine wp_seq ?_
 refine region_go (lst := [0]) (by kernel_rfl) ?_
 refine stepP hK 3 (.bool false) (by kernel_rfl) (by kernel_rfl) fun a hK => ?_
 refine region_done hK [(3, .bool false), (0, vN d), (1, pA bc 0)] ⟨rfl, rfl, rfl, trivial⟩ fun a hK => ?_
 refine wp_seq ?_
 refine region_go (lst := [0, 1, 2]) (by kernel_rfl) ?_
 refine stepLoad hK 4 (vN s) (by kernel_rfl) rfl rfl ((hM.row 0 rfl).cells 0 1) (by kernel_rfl) fun a hK => ?_
 refine stepP hK 5 (.int .i64 (((s + 1) : Nat) : Int)) (by kernel_rfl) (run_addN (i := s) (j := 1) rfl rfl rfl (by unfold okN at hok; omega)) fun a hK => ?_
 refine stepStore hK hM 0 [.int .i64 (((s + 1) : Nat) : Int)] (by kernel_rfl) rfl rfl rfl rfl (by kernel_rfl) fun w hM => ?_
 replace hM := hM.to (.row bc 3 [.int .i64 (((s + 1) : Nat) : Int)] :: F) (by kernel_rfl)
 refine region_done hK [(3, .bool false), (0, vN d), (1, pA bc 0)] ⟨rfl, rfl, rfl, trivial⟩ fun a hK => ?_
 refine wp_seq ?_
 refine region_go (lst := [0, 1, 2, 3, 4, 5, 6]) (by kernel_rfl) ?_
 refine stepLoad hK 6 (.int .i64 (((s + 1) : Nat) : Int)) (by kernel_rfl) rfl rfl ((hM.row 0 rfl).cells 0 1) (by kernel_rfl) fun a hK => ?_
 by_cases h1 : ((((s + 1) : Nat) : Int) : Int) ≤ 2000
 ·refine stepP hK 7 (.bool true) (by kernel_rfl) (okBool (b := (decide (((((s + 1) : Nat) : Int) : Int) ≤ 2000))) (by kernel_rfl) (decide_eq_true h1)) fun a hK => ?_
  refine stepM hK 8 7 (by kernel_rfl) (.inl rfl) rfl fun a hK => ?_
  refine stepM hK 9 0 (by kernel_rfl) (.inl rfl) rfl fun a hK => ?_
  by_cases h2 : (((d : Nat) : Int) : Int) ≤ 32
  ·refine stepP hK 10 (.bool true) (by kernel_rfl) (okBool (b := (decide ((((d : Nat) : Int) : Int) ≤ 32))) (by kernel_rfl) (decide_eq_true h2)) fun a hK => ?_
   refine stepP hK 11 (.bool true) (by kernel_rfl) (by kernel_rfl) fun a hK => ?_
   refine stepM hK 3 11 (by kernel_rfl) (.inr rfl) rfl fun a hK => ?_
   refine region_done hK [(3, .bool true), (0, vN d), (1, pA bc 0)] ⟨rfl, rfl, rfl, trivial⟩ fun a hK => ?_
   refine wp_ret ?_
   exact ret_t hK rfl (u := (.bool true)) rfl (⟨(true, s + 1), rfl, hM, by unfold limD; rw [(decide_eq_true h1), (decide_eq_true h2)]; rfl⟩)
  ·refine stepP hK 10 (.bool false) (by kernel_rfl) (okBool (b := (decide ((((d : Nat) : Int) : Int) ≤ 32))) (by kernel_rfl) (decide_eq_false h2)) fun a hK => ?_
   refine stepP hK 11 (.bool false) (by kernel_rfl) (by kernel_rfl) fun a hK => ?_
   refine stepM hK 3 11 (by kernel_rfl) (.inr rfl) rfl fun a hK => ?_
   refine region_done hK [(3, .bool false), (0, vN d), (1, pA bc 0)] ⟨rfl, rfl, rfl, trivial⟩ fun a hK => ?_
   refine wp_ret ?_
   exact ret_t hK rfl (u := (.bool false)) rfl (⟨(false, s + 1), rfl, hM, by unfold limD; rw [(decide_eq_true h1), (decide_eq_false h2)]; rfl⟩)
 ·refine stepP hK 7 (.bool false) (by kernel_rfl) (okBool (b := (decide (((((s + 1) : Nat) : Int) : Int) ≤ 2000))) (by kernel_rfl) (decide_eq_false h1)) fun a hK => ?_
  refine stepM hK 8 7 (by kernel_rfl) (.inl rfl) rfl fun a hK => ?_
  refine stepN hK 9 (by kernel_rfl) fun a hK => ?_
  refine stepN hK 10 (by kernel_rfl) fun a hK => ?_
  refine stepP hK 11 (.bool false) (by kernel_rfl) (by kernel_rfl) fun a hK => ?_
  refine stepM hK 3 11 (by kernel_rfl) (.inr rfl) rfl fun a hK => ?_
  refine region_done hK [(3, .bool false), (0, vN d), (1, pA bc 0)] ⟨rfl, rfl, rfl, trivial⟩ fun a hK => ?_
  refine wp_ret ?_
  exact ret_t hK rfl (u := (.bool false)) rfl (⟨(false, s + 1), rfl, hM, by unfold limD; rw [(decide_eq_false h1)]; rfl⟩)
set_option maxRecDepth 100000 in
set_option maxHeartbeats 4000000 in
theorem ast_limits  (w0 : World) : Calls Tryd.prog 28 #[] w0 (Gives w0 (fun x : Nat × Nat × Nat => .tuple #[.func (.func 70) #[] #[.pointer (some ⟨x.1, 0, none⟩)], .func (.func 71) #[] #[.pointer (some ⟨x.2.1, 0, none⟩)]]) (fun x => [.row x.1 61 [.func (.func 65) #[] #[.pointer (some ⟨x.2.2, 0, none⟩)]], .row x.2.1 61 [.func (.func 65) #[] #[.pointer (some ⟨x.2.2, 0, none⟩)]], .row x.2.2 3 [vN 0]]) fun _ => True) := by
 refine calls_K (args := []) (n := 9) (env := []) Tryd.func28 rfl rfl rfl trivial fun a w hK hM => ?_
 refine wp_seq ?_
 refine region_go (lst := [0, 1]) (by kernel_rfl) ?_
 refine stepP hK 0 (.nilFunc) (by kernel_rfl) (by kernel_rfl) fun a hK => ?_
 refine stepP hK 1 (.nilFunc) (by kernel_rfl) (by kernel_rfl) fun a hK => ?_
 refine region_done hK [(1, .nilFunc), (0, .nilFunc)] ⟨rfl, rfl, trivial⟩ fun a hK => ?_
 refine wp_seq ?_
 refine region_go (lst := [0, 1]) (by kernel_rfl) ?_
 refine stepAlloc hK hM 2 3 [.int .i64 0] (fun b => pA b 0) (by kernel_rfl) (by kernel_rfl) fun b1 a w hK hM => ?_
 refine stepStore hK hM 0 [.int .i64 0] (by kernel_rfl) rfl rfl rfl rfl (by kernel_rfl) fun w hM => ?_
 replace hM := hM.to [.row b1 3 [.int .i64 0]] (by kernel_rfl)
 refine region_done hK [(2, pA b1 0), (1, .nilFunc), (0, .nilFunc)] ⟨rfl, rfl, rfl, trivial⟩ fun a hK => ?_
 refine wp_seq ?_
 refine region_go (lst := [0, 1]) (by kernel_rfl) ?_
 refine stepP hK 4 (.func (.func 65) #[] #[pA b1 0]) (by kernel_rfl) (by kernel_rfl) fun a hK => ?_
 refine stepM hK 3 4 (by kernel_rfl) (.inr rfl) rfl fun a hK => ?_
 refine region_done hK [(3, .func (.func 65) #[] #[pA b1 0]), (2, pA b1 0), (1, .nilFunc), (0, .nilFunc)] ⟨rfl, rfl, rfl, rfl, trivial⟩ fun a hK => ?_
 refine wp_seq ?_
 refine region_go (lst := [0, 1, 2, 3, 4, 5]) (by kernel_rfl) ?_
 refine stepM hK 5 3 (by kernel_rfl) (.inl rfl) rfl fun a hK => ?_
 refine stepCall hK hM 6 #[.func (.func 65) #[] #[pA b1 0]] (by kernel_rfl) (run_callE en_ast_anyExpr rfl rfl (by kernel_rfl)) (ast_anyExpr 65 #[pA b1 0] _) ?_
 rintro b2 a w - hK hM
 refine stepM hK 7 3 (by kernel_rfl) (.inl rfl) rfl fun a hK => ?_
 refine stepCall hK hM 8 #[.func (.func 65) #[] #[pA b1 0]] (by kernel_rfl) (run_callE en_ast_anyStmt rfl rfl (by kernel_rfl)) (ast_anyStmt 65 #[pA b1 0] _) ?_
 rintro b4 a w - hK hM
 refine stepM hK 0 6 (by kernel_rfl) (.inr rfl) rfl fun a hK => ?_
 refine stepM hK 1 8 (by kernel_rfl) (.inr rfl) rfl fun a hK => ?_
 refine region_done hK [(1, .func (.func 71) #[] #[pA b4 0]), (0, .func (.func 70) #[] #[pA b2 0]), (3, .func (.func 65) #[] #[pA b1 0]), (2, pA b1 0)] ⟨rfl, rfl, rfl, rfl, trivial⟩ fun a hK => ?_
 refine wp_ret ?_
 exact ret_tt hK rfl (u := (.func (.func 70) #[] #[pA b2 0])) (v := (.func (.func 71) #[] #[pA b4 0])) rfl rfl (⟨(b2, b4, b1), rfl, (hM.order [[.row b4 61 [.func (.func 65) #[] #[pA b1 0]]], [.row b2 61 [.func (.func 65) #[] #[pA b1 0]]], [.row b1 3 [.int .i64 0]]] [1, 0, 2] 3 rfl (by simp) (by decide) ([.row b2 61 [.func (.func 65) #[] #[pA b1 0]], .row b4 61 [.func (.func 65) #[] #[pA b1 0]], .row b1 3 [.int .i64 0]]) (by simp)), trivial⟩)
set_option maxRecDepth 100000 in
set_option maxHeartbeats 4000000 in
theorem ast_Size (p : Pg) (w0 : World) (hp : PgAt w0 p) (hsz : thsSz p.ts ≤ 100000) (hsh : pgSh p = true) : Calls Tryd.prog 16 #[vG p] w0 (Ret w0 (.int .i64 ((thsSz p.ts : Nat) : Int))) := by
 refine calls_K (args := [vG p]) (n := 13) (env := [(0, vG p)]) Tryd.func16 rfl rfl rfl ⟨rfl, trivial⟩ fun a w hK hM => ?_
 refine wp_seq ?_
 refine region_go (lst := [0, 1]) (by kernel_rfl) ?_
 refine stepAlloc hK hM 1 25 [.slice p.A1 p.ds.length p.c1, .slice p.A2 p.ts.length p.c2] (fun b => pA b 0) (by kernel_rfl) (by kernel_rfl) fun b1 a w hK hM => ?_
 refine stepP hK 2 (.int .i64 0) (by kernel_rfl) (by kernel_rfl) fun a hK => ?_
 refine region_done hK [(2, .int .i64 0), (1, pA b1 0), (0, vG p)] ⟨rfl, rfl, rfl, trivial⟩ fun a hK => ?_
 refine wp_seq ?_
 refine region_go (lst := [0, 1]) (by kernel_rfl) ?_
 refine stepAlloc hK hM 3 3 [.int .i64 0] (fun b => pA b 0) (by kernel_rfl) (by kernel_rfl) fun b2 a w hK hM => ?_
 refine stepStore hK hM 0 [.int .i64 0] (by kernel_rfl) rfl rfl rfl rfl (by kernel_rfl) fun w hM => ?_
 replace hM := hM.to [.row b2 3 [.int .i64 0], .row b1 25 [.slice p.A1 p.ds.length p.c1, .slice p.A2 p.ts.length p.c2]] (by kernel_rfl)
 refine region_done hK [(3, pA b2 0), (2, .int .i64 0), (1, pA b1 0), (0, vG p)] ⟨rfl, rfl, rfl, rfl, trivial⟩ fun a hK => ?_
 refine wp_seq ?_
 refine region_go (lst := [0, 1]) (by kernel_rfl) ?_
 refine stepP hK 5 (.func (.func 44) #[] #[pA b2 0]) (by kernel_rfl) (by kernel_rfl) fun a hK => ?_
 refine stepM hK 4 5 (by kernel_rfl) (.inr rfl) rfl fun a hK => ?_
 refine region_done hK [(4, .func (.func 44) #[] #[pA b2 0]), (3, pA b2 0), (2, .int .i64 0), (1, pA b1 0), (0, vG p)] ⟨rfl, rfl, rfl, rfl, rfl, trivial⟩ fun a hK => ?_
 refine wp_seq ?_
 refine wp_cut (fun a w => ∃ (b3_2 : Nat), ∃ (b3_4 : Nat), ∃ (q3_5 : Nat), ∃ (r3_5 : Bool), Knows a 13 [(4, .func (.func 44) #[] #[pA b2 0]), (3, pA b2 0), (2, .int .i64 0), (1, pA b1 0), (0, vG p)] ∧ Mem w0 w [.row b3_2 61 [.func (.func 44) #[] #[pA b2 0]], .row b3_4 61 [.func (.func 44) #[] #[pA b2 0]], .row b2 3 [vN q3_5], .row b1 25 [.slice p.A1 p.ds.length p.c1, .slice p.A2 p.ts.length p.c2]] ∧ (r3_5, q3_5) = thsWk (fun _ d s => sizeD d s) (fun _ d s => sizeD d s) p.ts 0) ?_ ?_
 ·refine region_tree hM (by kernel_rfl) 6 (by kernel_rfl) #[false, false, false, false, false, false] (by kernel_rfl) ?_
  clear hM; intro w hM
  refine treeP hK 1 7 (.func (.func 44) #[] #[pA b2 0]) (by kernel_rfl) (by kernel_rfl) (by kernel_rfl) (fun w => (by kernel_rfl)) #[false, true, false, false, false, false] (by kernel_rfl) fun a hK => ?_
  refine treeP hK 3 9 (.func (.func 44) #[] #[pA b2 0]) (by kernel_rfl) (by kernel_rfl) (by kernel_rfl) (fun w => (by kernel_rfl)) #[false, true, false, true, false, false] (by kernel_rfl) fun a hK => ?_
  refine treeM [0, 2] (by kernel_rfl) rfl ⟨?_, ?_, trivial⟩
  ·refine stepLoad hK 6 (vG p) (by kernel_rfl) rfl rfl ((hM.row 1 rfl).cells 0 2) (by kernel_rfl) fun a hK => ?_
   refine tree_next #[true, true, false, true, false, false] (by kernel_rfl) ?_
   refine treeM [2] (by kernel_rfl) rfl ⟨?_, trivial⟩
   refine stepCall hK hM 8 #[.func (.func 44) #[] #[pA b2 0]] (by kernel_rfl) (run_callE en_ast_anyExpr rfl rfl (by kernel_rfl)) (ast_anyExpr 44 #[pA b2 0] _) ?_
   rintro b3_2 a w - hK hM
   refine tree_next #[true, true, true, true, false, false] (by kernel_rfl) ?_
   refine treeM [4] (by kernel_rfl) rfl ⟨?_, trivial⟩
   refine stepCall hK hM 10 #[.func (.func 44) #[] #[pA b2 0]] (by kernel_rfl) (run_callE en_ast_anyStmt rfl rfl (by kernel_rfl)) (ast_anyStmt 44 #[pA b2 0] _) ?_
   rintro b3_4 a w - hK hM
   refine tree_next #[true, true, true, true, true, false] (by kernel_rfl) ?_
   refine treeM [5] (by kernel_rfl) rfl ⟨?_, trivial⟩
   have hc5m : Mem w0 _ [.row b3_2 61 [.func (.func 44) #[] #[pA b2 0]], .row b3_4 61 [.func (.func 44) #[] #[pA b2 0]], .row b2 3 [.int .i64 0], .row b1 25 [.slice p.A1 p.ds.length p.c1, .slice p.A2 p.ts.length p.c2]] := (hM.order [[.row b3_4 61 [.func (.func 44) #[] #[pA b2 0]]], [.row b3_2 61 [.func (.func 44) #[] #[pA b2 0]]], [.row b2 3 [.int .i64 0]], [.row b1 25 [.slice p.A1 p.ds.length p.c1, .slice p.A2 p.ts.length p.c2]]] [1, 0, 2, 3] 4 rfl (by simp) (by decide) ([.row b3_2 61 [.func (.func 44) #[] #[pA b2 0]], .row b3_4 61 [.func (.func 44) #[] #[pA b2 0]], .row b2 3 [.int .i64 0], .row b1 25 [.slice p.A1 p.ds.length p.c1, .slice p.A2 p.ts.length p.c2]]) (by simp))
   have hc5 := ast_walkThreads (any_expr2 (step_size _ b2) b3_2 b3_4) (any_stmt2 (step_size _ b2) b3_2 b3_4) p 0 0 [.row b1 25 [.slice p.A1 p.ds.length p.c1, .slice p.A2 p.ts.length p.c2]] _ (hp.on (Below.refl _ _)) (by omega) hsh hc5m (by unfold okN; omega)
   refine stepCallIn hK 11 #[vG p, .func (.func 70) #[] #[pA b3_2 0], .func (.func 71) #[] #[pA b3_4 0]] (by kernel_rfl) (run_callE en_ast_walkThreads rfl rfl (by kernel_rfl)) (hc5) ?_
   rintro ⟨r3_5, q3_5⟩ a w ⟨hR3_5, -⟩ hK hM
   replace hM := hM.to [.row b3_2 61 [.func (.func 44) #[] #[pA b2 0]], .row b3_4 61 [.func (.func 44) #[] #[pA b2 0]], .row b2 3 [vN q3_5], .row b1 25 [.slice p.A1 p.ds.length p.c1, .slice p.A2 p.ts.length p.c2]] (by kernel_rfl)
   refine tree_next #[true, true, true, true, true, true] (by kernel_rfl) ?_
   exact treeE (by kernel_rfl) ⟨b3_2, b3_4, q3_5, r3_5, hK.sub ⟨rfl, rfl, rfl, rfl, rfl, trivial⟩, hM, hR3_5⟩
  ·refine stepCall hK hM 8 #[.func (.func 44) #[] #[pA b2 0]] (by kernel_rfl) (run_callE en_ast_anyExpr rfl rfl (by kernel_rfl)) (ast_anyExpr 44 #[pA b2 0] _) ?_
   rintro b3_2 a w - hK hM
   refine tree_next #[false, true, true, true, false, false] (by kernel_rfl) ?_
   refine treeM [0, 4] (by kernel_rfl) rfl ⟨?_, ?_, trivial⟩
   ·refine stepLoad hK 6 (vG p) (by kernel_rfl) rfl rfl ((hM.row 2 rfl).cells 0 2) (by kernel_rfl) fun a hK => ?_
    refine tree_next #[true, true, true, true, false, false] (by kernel_rfl) ?_
    refine treeM [4] (by kernel_rfl) rfl ⟨?_, trivial⟩
    refine stepCall hK hM 10 #[.func (.func 44) #[] #[pA b2 0]] (by kernel_rfl) (run_callE en_ast_anyStmt rfl rfl (by kernel_rfl)) (ast_anyStmt 44 #[pA b2 0] _) ?_
    rintro b3_4 a w - hK hM
    refine tree_next #[true, true, true, true, true, false] (by kernel_rfl) ?_
    refine treeM [5] (by kernel_rfl) rfl ⟨?_, trivial⟩
    have hc9m : Mem w0 _ [.row b3_2 61 [.func (.func 44) #[] #[pA b2 0]], .row b3_4 61 [.func (.func 44) #[] #[pA b2 0]], .row b2 3 [.int .i64 0], .row b1 25 [.slice p.A1 p.ds.length p.c1, .slice p.A2 p.ts.length p.c2]] := (hM.order [[.row b3_4 61 [.func (.func 44) #[] #[pA b2 0]]], [.row b3_2 61 [.func (.func 44) #[] #[pA b2 0]]], [.row b2 3 [.int .i64 0]], [.row b1 25 [.slice p.A1 p.ds.length p.c1, .slice p.A2 p.ts.length p.c2]]] [1, 0, 2, 3] 4 rfl (by simp) (by decide) ([.row b3_2 61 [.func (.func 44) #[] #[pA b2 0]], .row b3_4 61 [.func (.func 44) #[] #[pA b2 0]], .row b2 3 [.int .i64 0], .row b1 25 [.slice p.A1 p.ds.length p.c1, .slice p.A2 p.ts.length p.c2]]) (by simp))
    have hc9 := ast_walkThreads (any_expr2 (step_size _ b2) b3_2 b3_4) (any_stmt2 (step_size _ b2) b3_2 b3_4) p 0 0 [.row b1 25 [.slice p.A1 p.ds.length p.c1, .slice p.A2 p.ts.length p.c2]] _ (hp.on (Below.refl _ _)) (by omega) hsh hc9m (by unfold okN; omega)
    refine stepCallIn hK 11 #[vG p, .func (.func 70) #[] #[pA b3_2 0], .func (.func 71) #[] #[pA b3_4 0]] (by kernel_rfl) (run_callE en_ast_walkThreads rfl rfl (by kernel_rfl)) (hc9) ?_
    rintro ⟨r3_5, q3_5⟩ a w ⟨hR3_5, -⟩ hK hM
    replace hM := hM.to [.row b3_2 61 [.func (.func 44) #[] #[pA b2 0]], .row b3_4 61 [.func (.func 44) #[] #[pA b2 0]], .row b2 3 [vN q3_5], .row b1 25 [.slice p.A1 p.ds.length p.c1, .slice p.A2 p.ts.length p.c2]] (by kernel_rfl)
    refine tree_next #[true, true, true, true, true, true] (by kernel_rfl) ?_
    exact treeE (by kernel_rfl) ⟨b3_2, b3_4, q3_5, r3_5, hK.sub ⟨rfl, rfl, rfl, rfl, rfl, trivial⟩, hM, hR3_5⟩
   ·refine stepCall hK hM 10 #[.func (.func 44) #[] #[pA b2 0]] (by kernel_rfl) (run_callE en_ast_anyStmt rfl rfl (by kernel_rfl)) (ast_anyStmt 44 #[pA b2 0] _) ?_
    rintro b3_4 a w - hK hM
    refine tree_next #[false, true, true, true, true, false] (by kernel_rfl) ?_
    refine treeM [0] (by kernel_rfl) rfl ⟨?_, trivial⟩
    refine stepLoad hK 6 (vG p) (by kernel_rfl) rfl rfl ((hM.row 3 rfl).cells 0 2) (by kernel_rfl) fun a hK => ?_
    refine tree_next #[true, true, true, true, true, false] (by kernel_rfl) ?_
    refine treeM [5] (by kernel_rfl) rfl ⟨?_, trivial⟩
    have hc12m : Mem w0 _ [.row b3_2 61 [.func (.func 44) #[] #[pA b2 0]], .row b3_4 61 [.func (.func 44) #[] #[pA b2 0]], .row b2 3 [.int .i64 0], .row b1 25 [.slice p.A1 p.ds.length p.c1, .slice p.A2 p.ts.length p.c2]] := (hM.order [[.row b3_4 61 [.func (.func 44) #[] #[pA b2 0]]], [.row b3_2 61 [.func (.func 44) #[] #[pA b2 0]]], [.row b2 3 [.int .i64 0]], [.row b1 25 [.slice p.A1 p.ds.length p.c1, .slice p.A2 p.ts.length p.c2]]] [1, 0, 2, 3] 4 rfl (by simp) (by decide) ([.row b3_2 61 [.func (.func 44) #[] #[pA b2 0]], .row b3_4 61 [.func (.func 44) #[] #[pA b2 0]], .row b2 3 [.int .i64 0], .row b1 25 [.slice p.A1 p.ds.length p.c1, .slice p.A2 p.ts.length p.c2]]) (by simp))
    have hc12 := ast_walkThreads (any_expr2 (step_size _ b2) b3_2 b3_4) (any_stmt2 (step_size _ b2) b3_2 b3_4) p 0 0 [.row b1 25 [.slice p.A1 p.ds.length p.c1, .slice p.A2 p.ts.length p.c2]] _ (hp.on (Below.refl _ _)) (by omega) hsh hc12m (by unfold okN; omega)
    refine stepCallIn hK 11 #[vG p, .func (.func 70) #[] #[pA b3_2 0], .func (.func 71) #[] #[pA b3_4 0]] (by kernel_rfl) (run_callE en_ast_walkThreads rfl rfl (by kernel_rfl)) (hc12) ?_
    rintro ⟨r3_5, q3_5⟩ a w ⟨hR3_5, -⟩ hK hM
    replace hM := hM.to [.row b3_2 61 [.func (.func 44) #[] #[pA b2 0]], .row b3_4 61 [.func (.func 44) #[] #[pA b2 0]], .row b2 3 [vN q3_5], .row b1 25 [.slice p.A1 p.ds.length p.c1, .slice p.A2 p.ts.length p.c2]] (by kernel_rfl)
    refine tree_next #[true, true, true, true, true, true] (by kernel_rfl) ?_
    exact treeE (by kernel_rfl) ⟨b3_2, b3_4, q3_5, r3_5, hK.sub ⟨rfl, rfl, rfl, rfl, rfl, trivial⟩, hM, hR3_5⟩
 rintro a w ⟨b3_2, b3_4, q3_5, r3_5, hK, hM, hR3_5⟩
 refine wp_seq ?_
 refine region_go (lst := [0, 1]) (by kernel_rfl) ?_
 refine stepLoad hK 12 (vN q3_5) (by kernel_rfl) rfl rfl ((hM.row 2 rfl).cells 0 1) (by kernel_rfl) fun a hK => ?_
 refine stepM hK 2 12 (by kernel_rfl) (.inr rfl) rfl fun a hK => ?_
 refine region_done hK [(2, vN q3_5), (4, .func (.func 44) #[] #[pA b2 0]), (3, pA b2 0), (1, pA b1 0), (0, vG p)] ⟨rfl, rfl, rfl, rfl, rfl, trivial⟩ fun a hK => ?_
 refine wp_ret ?_
 exact ret_t hK rfl (u := (vN q3_5)) rfl (⟨by have h9 := (congrArg Prod.snd (hR3_5.trans (size_ths p.ts 0))); have h8 : q3_5 = _ := h9; rw [h8]; rw [Nat.zero_add], hM.below⟩)
set_option maxRecDepth 100000 in
set_option maxHeartbeats 4000000 in
theorem ast_Deep (p : Pg) (w0 : World) (hp : PgAt w0 p) (hsz : thsSz p.ts ≤ 100000) (hsh : pgSh p = true) : Calls Tryd.prog 11 #[vG p] w0 (Ret w0 (.int .i64 ((thsDp p.ts : Nat) : Int))) := by
 refine calls_K (args := [vG p]) (n := 13) (env := [(0, vG p)]) Tryd.func11 rfl rfl rfl ⟨rfl, trivial⟩ fun a w hK hM => ?_
 refine wp_seq ?_
 refine region_go (lst := [0, 1]) (by kernel_rfl) ?_
 refine stepAlloc hK hM 1 25 [.slice p.A1 p.ds.length p.c1, .slice p.A2 p.ts.length p.c2] (fun b => pA b 0) (by kernel_rfl) (by kernel_rfl) fun b1 a w hK hM => ?_
 refine stepP hK 2 (.int .i64 0) (by kernel_rfl) (by kernel_rfl) fun a hK => ?_
 refine region_done hK [(2, .int .i64 0), (1, pA b1 0), (0, vG p)] ⟨rfl, rfl, rfl, trivial⟩ fun a hK => ?_
 refine wp_seq ?_
 refine region_go (lst := [0, 1]) (by kernel_rfl) ?_
 refine stepAlloc hK hM 3 3 [.int .i64 0] (fun b => pA b 0) (by kernel_rfl) (by kernel_rfl) fun b2 a w hK hM => ?_
 refine stepStore hK hM 0 [.int .i64 0] (by kernel_rfl) rfl rfl rfl rfl (by kernel_rfl) fun w hM => ?_
 replace hM := hM.to [.row b2 3 [.int .i64 0], .row b1 25 [.slice p.A1 p.ds.length p.c1, .slice p.A2 p.ts.length p.c2]] (by kernel_rfl)
 refine region_done hK [(3, pA b2 0), (2, .int .i64 0), (1, pA b1 0), (0, vG p)] ⟨rfl, rfl, rfl, rfl, trivial⟩ fun a hK => ?_
 refine wp_seq ?_
 refine region_go (lst := [0, 1]) (by kernel_rfl) ?_
 refine stepP hK 5 (.func (.func 34) #[] #[pA b2 0]) (by kernel_rfl) (by kernel_rfl) fun a hK => ?_
 refine stepM hK 4 5 (by kernel_rfl) (.inr rfl) rfl fun a hK => ?_
 refine region_done hK [(4, .func (.func 34) #[] #[pA b2 0]), (3, pA b2 0), (2, .int .i64 0), (1, pA b1 0), (0, vG p)] ⟨rfl, rfl, rfl, rfl, rfl, trivial⟩ fun a hK => ?_
 refine wp_seq ?_
 refine wp_cut (fun a w => ∃ (b3_2 : Nat), ∃ (b3_4 : Nat), ∃ (q3_5 : Nat), ∃ (r3_5 : Bool), Knows a 13 [(4, .func (.func 34) #[] #[pA b2 0]), (3, pA b2 0), (2, .int .i64 0), (1, pA b1 0), (0, vG p)] ∧ Mem w0 w [.row b3_2 61 [.func (.func 34) #[] #[pA b2 0]], .row b3_4 61 [.func (.func 34) #[] #[pA b2 0]], .row b2 3 [vN q3_5], .row b1 25 [.slice p.A1 p.ds.length p.c1, .slice p.A2 p.ts.length p.c2]] ∧ (r3_5, q3_5) = thsWk (fun _ d s => deepD d s) (fun _ d s => deepD d s) p.ts 0) ?_ ?_
 ·refine region_tree hM (by kernel_rfl) 6 (by kernel_rfl) #[false, false, false, false, false, false] (by kernel_rfl) ?_
  clear hM; intro w hM
  refine treeP hK 1 7 (.func (.func 34) #[] #[pA b2 0]) (by kernel_rfl) (by kernel_rfl) (by kernel_rfl) (fun w => (by kernel_rfl)) #[false, true, false, false, false, false] (by kernel_rfl) fun a hK => ?_
  refine treeP hK 3 9 (.func (.func 34) #[] #[pA b2 0]) (by kernel_rfl) (by kernel_rfl) (by kernel_rfl) (fun w => (by kernel_rfl)) #[false, true, false, true, false, false] (by kernel_rfl) fun a hK => ?_
  refine treeM [0, 2] (by kernel_rfl) rfl ⟨?_, ?_, trivial⟩
  ·refine stepLoad hK 6 (vG p) (by kernel_rfl) rfl rfl ((hM.row 1 rfl).cells 0 2) (by kernel_rfl) fun a hK => ?_
   refine tree_next #[true, true, false, true, false, false] (by kernel_rfl) ?_
   refine treeM [2] (by kernel_rfl) rfl ⟨?_, trivial⟩
   refine stepCall hK hM 8 #[.func (.func 34) #[] #[pA b2 0]] (by kernel_rfl) (run_callE en_ast_anyExpr rfl rfl (by kernel_rfl)) (ast_anyExpr 34 #[pA b2 0] _) ?_
   rintro b3_2 a w - hK hM
   refine tree_next #[true, true, true, true, false, false] (by kernel_rfl) ?_
   refine treeM [4] (by kernel_rfl) rfl ⟨?_, trivial⟩
   refine stepCall hK hM 10 #[.func (.func 34) #[] #[pA b2 0]] (by kernel_rfl) (run_callE en_ast_anyStmt rfl rfl (by kernel_rfl)) (ast_anyStmt 34 #[pA b2 0] _) ?_
   rintro b3_4 a w - hK hM
   refine tree_next #[true, true, true, true, true, false] (by kernel_rfl) ?_
   refine treeM [5] (by kernel_rfl) rfl ⟨?_, trivial⟩
   have hc5m : Mem w0 _ [.row b3_2 61 [.func (.func 34) #[] #[pA b2 0]], .row b3_4 61 [.func (.func 34) #[] #[pA b2 0]], .row b2 3 [.int .i64 0], .row b1 25 [.slice p.A1 p.ds.length p.c1, .slice p.A2 p.ts.length p.c2]] := (hM.order [[.row b3_4 61 [.func (.func 34) #[] #[pA b2 0]]], [.row b3_2 61 [.func (.func 34) #[] #[pA b2 0]]], [.row b2 3 [.int .i64 0]], [.row b1 25 [.slice p.A1 p.ds.length p.c1, .slice p.A2 p.ts.length p.c2]]] [1, 0, 2, 3] 4 rfl (by simp) (by decide) ([.row b3_2 61 [.func (.func 34) #[] #[pA b2 0]], .row b3_4 61 [.func (.func 34) #[] #[pA b2 0]], .row b2 3 [.int .i64 0], .row b1 25 [.slice p.A1 p.ds.length p.c1, .slice p.A2 p.ts.length p.c2]]) (by simp))
   have hc5 := ast_walkThreads (any_expr2 (step_deep _ b2) b3_2 b3_4) (any_stmt2 (step_deep _ b2) b3_2 b3_4) p 0 0 [.row b1 25 [.slice p.A1 p.ds.length p.c1, .slice p.A2 p.ts.length p.c2]] _ (hp.on (Below.refl _ _)) (by omega) hsh hc5m (trivial)
   refine stepCallIn hK 11 #[vG p, .func (.func 70) #[] #[pA b3_2 0], .func (.func 71) #[] #[pA b3_4 0]] (by kernel_rfl) (run_callE en_ast_walkThreads rfl rfl (by kernel_rfl)) (hc5) ?_
   rintro ⟨r3_5, q3_5⟩ a w ⟨hR3_5, -⟩ hK hM
   replace hM := hM.to [.row b3_2 61 [.func (.func 34) #[] #[pA b2 0]], .row b3_4 61 [.func (.func 34) #[] #[pA b2 0]], .row b2 3 [vN q3_5], .row b1 25 [.slice p.A1 p.ds.length p.c1, .slice p.A2 p.ts.length p.c2]] (by kernel_rfl)
   refine tree_next #[true, true, true, true, true, true] (by kernel_rfl) ?_
   exact treeE (by kernel_rfl) ⟨b3_2, b3_4, q3_5, r3_5, hK.sub ⟨rfl, rfl, rfl, rfl, rfl, trivial⟩, hM, hR3_5⟩
  ·refine stepCall hK hM 8 #[.func (.func 34) #[] #[pA b2 0]] (by kernel_rfl) (run_callE en_ast_anyExpr rfl rfl (by kernel_rfl)) (ast_anyExpr 34 #[pA b2 0] _) ?_
   rintro b3_2 a w - hK hM
   refine tree_next #[false, true, true, true, false, false] (by kernel_rfl) ?_
   refine treeM [0, 4] (by kernel_rfl) rfl ⟨?_, ?_, trivial⟩
   ·refine stepLoad hK 6 (vG p) (by kernel_rfl) rfl rfl ((hM.row 2 rfl).cells 0 2) (by kernel_rfl) fun a hK => ?_
    refine tree_next #[true, true, true, true, false, false] (by kernel_rfl) ?_
    refine treeM [4] (by kernel_rfl) rfl ⟨?_, trivial⟩
    refine stepCall hK hM 10 #[.func (.func 34) #[] #[pA b2 0]] (by kernel_rfl) (run_callE en_ast_anyStmt rfl rfl (by kernel_rfl)) (ast_anyStmt 34 #[pA b2 0] _) ?_
    rintro b3_4 a w - hK hM
    refine tree_next #[true, true, true, true, true, false] (by kernel_rfl) ?_
    refine treeM [5] (by kernel_rfl) rfl ⟨?_, trivial⟩
    have hc9m : Mem w0 _ [.row b3_2 61 [.func (.func 34) #[] #[pA b2 0]], .row b3_4 61 [.func (.func 34) #[] #[pA b2 0]], .row b2 3 [.int .i64 0], .row b1 25 [.slice p.A1 p.ds.length p.c1, .slice p.A2 p.ts.length p.c2]] := (hM.order [[.row b3_4 61 [.func (.func 34) #[] #[pA b2 0]]], [.row b3_2 61 [.func (.func 34) #[] #[pA b2 0]]], [.row b2 3 [.int .i64 0]], [.row b1 25 [.slice p.A1 p.ds.length p.c1, .slice p.A2 p.ts.length p.c2]]] [1, 0, 2, 3] 4 rfl (by simp) (by decide) ([.row b3_2 61 [.func (.func 34) #[] #[pA b2 0]], .row b3_4 61 [.func (.func 34) #[] #[pA b2 0]], .row b2 3 [.int .i64 0], .row b1 25 [.slice p.A1 p.ds.length p.c1, .slice p.A2 p.ts.length p.c2]]) (by simp))
    have hc9 := ast_walkThreads (any_expr2 (step_deep _ b2) b3_2 b3_4) (any_stmt2 (step_deep _ b2) b3_2 b3_4) p 0 0 [.row b1 25 [.slice p.A1 p.ds.length p.c1, .slice p.A2 p.ts.length p.c2]] _ (hp.on (Below.refl _ _)) (by omega) hsh hc9m (trivial)
    refine stepCallIn hK 11 #[vG p, .func (.func 70) #[] #[pA b3_2 0], .func (.func 71) #[] #[pA b3_4 0]] (by kernel_rfl) (run_callE en_ast_walkThreads rfl rfl (by kernel_rfl)) (hc9) ?_
    rintro ⟨r3_5, q3_5⟩ a w ⟨hR3_5, -⟩ hK hM
    replace hM := hM.to [.row b3_2 61 [.func (.func 34) #[] #[pA b2 0]], .row b3_4 61 [.func (.func 34) #[] #[pA b2 0]], .row b2 3 [vN q3_5], .row b1 25 [.slice p.A1 p.ds.length p.c1, .slice p.A2 p.ts.length p.c2]] (by kernel_rfl)
    refine tree_next #[true, true, true, true, true, true] (by kernel_rfl) ?_
    exact treeE (by kernel_rfl) ⟨b3_2, b3_4, q3_5, r3_5, hK.sub ⟨rfl, rfl, rfl, rfl, rfl, trivial⟩, hM, hR3_5⟩
   ·refine stepCall hK hM 10 #[.func (.func 34) #[] #[pA b2 0]] (by kernel_rfl) (run_callE en_ast_anyStmt rfl rfl (by kernel_rfl)) (ast_anyStmt 34 #[pA b2 0] _) ?_
    rintro b3_4 a w - hK hM
    refine tree_next #[false, true, true, true, true, false] (by kernel_rfl) ?_
    refine treeM [0] (by kernel_rfl) rfl ⟨?_, trivial⟩
    refine stepLoad hK 6 (vG p) (by kernel_rfl) rfl rfl ((hM.row 3 rfl).cells 0 2) (by kernel_rfl) fun a hK => ?_
    refine tree_next #[true, true, true, true, true, false] (by kernel_rfl) ?_
    refine treeM [5] (by kernel_rfl) rfl ⟨?_, trivial⟩
    have hc12m : Mem w0 _ [.row b3_2 61 [.func (.func 34) #[] #[pA b2 0]], .row b3_4 61 [.func (.func 34) #[] #[pA b2 0]], .row b2 3 [.int .i64 0], .row b1 25 [.slice p.A1 p.ds.length p.c1, .slice p.A2 p.ts.length p.c2]] := (hM.order [[.row b3_4 61 [.func (.func 34) #[] #[pA b2 0]]], [.row b3_2 61 [.func (.func 34) #[] #[pA b2 0]]], [.row b2 3 [.int .i64 0]], [.row b1 25 [.slice p.A1 p.ds.length p.c1, .slice p.A2 p.ts.length p.c2]]] [1, 0, 2, 3] 4 rfl (by simp) (by decide) ([.row b3_2 61 [.func (.func 34) #[] #[pA b2 0]], .row b3_4 61 [.func (.func 34) #[] #[pA b2 0]], .row b2 3 [.int .i64 0], .row b1 25 [.slice p.A1 p.ds.length p.c1, .slice p.A2 p.ts.length p.c2]]) (by simp))
    have hc12 := ast_walkThreads (any_expr2 (step_deep _ b2) b3_2 b3_4) (any_stmt2 (step_deep _ b2) b3_2 b3_4) p 0 0 [.row b1 25 [.slice p.A1 p.ds.length p.c1, .slice p.A2 p.ts.length p.c2]] _ (hp.on (Below.refl _ _)) (by omega) hsh hc12m (trivial)
    refine stepCallIn hK 11 #[vG p, .func (.func 70) #[] #[pA b3_2 0], .func (.func 71) #[] #[pA b3_4 0]] (by kernel_rfl) (run_callE en_ast_walkThreads rfl rfl (by kernel_rfl)) (hc12) ?_
    rintro ⟨r3_5, q3_5⟩ a w ⟨hR3_5, -⟩ hK hM
    replace hM := hM.to [.row b3_2 61 [.func (.func 34) #[] #[pA b2 0]], .row b3_4 61 [.func (.func 34) #[] #[pA b2 0]], .row b2 3 [vN q3_5], .row b1 25 [.slice p.A1 p.ds.length p.c1, .slice p.A2 p.ts.length p.c2]] (by kernel_rfl)
    refine tree_next #[true, true, true, true, true, true] (by kernel_rfl) ?_
    exact treeE (by kernel_rfl) ⟨b3_2, b3_4, q3_5, r3_5, hK.sub ⟨rfl, rfl, rfl, rfl, rfl, trivial⟩, hM, hR3_5⟩
 rintro a w ⟨b3_2, b3_4, q3_5, r3_5, hK, hM, hR3_5⟩
 refine wp_seq ?_
 refine region_go (lst := [0, 1]) (by kernel_rfl) ?_
 refine stepLoad hK 12 (vN q3_5) (by kernel_rfl) rfl rfl ((hM.row 2 rfl).cells 0 1) (by kernel_rfl) fun a hK => ?_
 refine stepM hK 2 12 (by kernel_rfl) (.inr rfl) rfl fun a hK => ?_
 refine region_done hK [(2, vN q3_5), (4, .func (.func 34) #[] #[pA b2 0]), (3, pA b2 0), (1, pA b1 0), (0, vG p)] ⟨rfl, rfl, rfl, rfl, rfl, trivial⟩ fun a hK => ?_
 refine wp_ret ?_
 exact ret_t hK rfl (u := (vN q3_5)) rfl (⟨by have h9 := (congrArg Prod.snd (hR3_5.trans (deep_ths p.ts 0))); have h8 : q3_5 = _ := h9; rw [h8]; rw [Nat.zero_max], hM.below⟩)
end Go.Proofs.YtiigncmpbkfhmaaDoor
