/-
  What AstCallsCard stands on, part 2.
-/
import Derived.Test.YtiigncmpbkfhmaaGreatDoorCards
import Derived.Test.YtiigncmpbkfhmaaGreatDoorTie
import Derived.WalkKit
import Derived.ProofKit
import Derived.OpenShut
import Derived.ChangeSlices
import Derived.WideKeyArgs
import Derived.Lib.SmallJoins
import Derived.Deep.DeepHandedRow
import Derived.Lib.LaidTab
import Derived.LaidSub
import Derived.Laws.MakeOwn
import Derived.Laws.Cover3
import Derived.Laws.OwnMore
import Derived.Sort.KeysCollected
import Derived.Test.YtiigncmpbkfhmaaGreatDoorPk1
namespace Go.Proofs.YtiigncmpbkfhmaaGreatDoor
open Go Go.RowKit
def wordB (c : UInt8) : Bool := isLetter c || (isDigit c || (((c.toNat : Nat) : Int) == 95))
theorem take_of_all {P : UInt8 → Bool} : ∀ (r : List UInt8) (n : Nat), n ≤ r.length → (∀ j c, j < n → r[j]? = some c → P c = true) → (∀ c, r[n]? = some c → P c = false) → r.take n = r.takeWhile P := by
 intro r
 induction r with
 | nil => intro n _ _ _; simp
 | cons c r ih =>
  intro n hn h1 h2
  cases n with
  | zero => rw [List.takeWhile_cons, if_neg (by rw [h2 c rfl]; decide)]; rfl
  | succ n =>
   rw [List.takeWhile_cons, if_pos (h1 0 c (by omega) rfl), List.take_succ_cons, ih n (by simpa using hn) (fun j d hj hd => h1 (j + 1) d (by omega) (by simpa using hd)) (fun d hd => h2 d (by simpa using hd))]
def inWordB (c : UInt8) : Bool := isLetter c || isDigit c || (decide ((((c.toNat : Nat) : Int)) = 95))
set_option maxRecDepth 100000 in
set_option maxHeartbeats 4000000 in
theorem lex_isLetter (c : UInt8) (w0 : World) : Calls Tryz.prog 96 #[.int .u8 ((c.toNat : Nat) : Int)] w0 (Ret w0 (.bool (isLetter c))) := by
 refine calls_K (args := [.int .u8 ((c.toNat : Nat) : Int)]) (n := 17) (env := [(0, .int .u8 ((c.toNat : Nat) : Int))]) Tryz.func96 rfl rfl rfl ⟨rfl, trivial⟩ fun a w hK hM => ?_
 refine wp_seq ?_
 refine rg1 (by kernel_rfl) ?_
 refine sP hK 2 (.bool false) (by kernel_rfl) (by kernel_rfl) fun a hK => ?_
 refine rdo hK [(2, .bool false), (0, .int .u8 ((c.toNat : Nat) : Int))] ⟨rfl, rfl, trivial⟩ fun a hK => ?_
 refine wp_seq ?_
 refine rg15 (by kernel_rfl) ?_
 refine sM hK 3 0 (by kernel_rfl) (.inl rfl) rfl fun a hK => ?_
 by_cases h1 : (97 : Int) ≤ ((c.toNat : Nat) : Int)
 ·refine sP hK 4 (.bool true) (by kernel_rfl) (oB (b := (decide ((97 : Int) ≤ ((c.toNat : Nat) : Int)))) (by kernel_rfl) (decide_eq_true h1)) fun a hK => ?_
  refine sM hK 5 4 (by kernel_rfl) (.inl rfl) rfl fun a hK => ?_
  refine sM hK 6 0 (by kernel_rfl) (.inl rfl) rfl fun a hK => ?_
  by_cases h2 : (((c.toNat : Nat) : Int) : Int) ≤ 122
  ·refine sP hK 7 (.bool true) (by kernel_rfl) (oB (b := (decide ((((c.toNat : Nat) : Int) : Int) ≤ 122))) (by kernel_rfl) (decide_eq_true h2)) fun a hK => ?_
   refine sP hK 8 (.bool true) (by kernel_rfl) (by kernel_rfl) fun a hK => ?_
   refine sM hK 9 8 (by kernel_rfl) (.inl rfl) rfl fun a hK => ?_
   refine sN hK 10 (by kernel_rfl) fun a hK => ?_
   refine sN hK 11 (by kernel_rfl) fun a hK => ?_
   refine sN hK 12 (by kernel_rfl) fun a hK => ?_
   refine sN hK 13 (by kernel_rfl) fun a hK => ?_
   refine sN hK 14 (by kernel_rfl) fun a hK => ?_
   refine sN hK 15 (by kernel_rfl) fun a hK => ?_
   refine sP hK 16 (.bool true) (by kernel_rfl) (by kernel_rfl) fun a hK => ?_
   refine sM hK 2 16 (by kernel_rfl) (.inr rfl) rfl fun a hK => ?_
   refine rdo hK [(2, .bool true), (0, .int .u8 ((c.toNat : Nat) : Int))] ⟨rfl, rfl, trivial⟩ fun a hK => ?_
   refine wp_ret ?_
   exact ret_t hK rfl (u := (.bool true)) rfl (⟨congrArg Ending.returned (congrArg Value.bool (by unfold isLetter; rw [(decide_eq_true h1), (decide_eq_true h2)]; try rfl)), hM.below⟩)
  ·refine sP hK 7 (.bool false) (by kernel_rfl) (oB (b := (decide ((((c.toNat : Nat) : Int) : Int) ≤ 122))) (by kernel_rfl) (decide_eq_false h2)) fun a hK => ?_
   refine sP hK 8 (.bool false) (by kernel_rfl) (by kernel_rfl) fun a hK => ?_
   refine sM hK 9 8 (by kernel_rfl) (.inl rfl) rfl fun a hK => ?_
   refine sM hK 10 0 (by kernel_rfl) (.inl rfl) rfl fun a hK => ?_
   by_cases h3 : (65 : Int) ≤ ((c.toNat : Nat) : Int)
   ·refine sP hK 11 (.bool true) (by kernel_rfl) (oB (b := (decide ((65 : Int) ≤ ((c.toNat : Nat) : Int)))) (by kernel_rfl) (decide_eq_true h3)) fun a hK => ?_
    refine sM hK 12 11 (by kernel_rfl) (.inl rfl) rfl fun a hK => ?_
    refine sM hK 13 0 (by kernel_rfl) (.inl rfl) rfl fun a hK => ?_
    by_cases h4 : (((c.toNat : Nat) : Int) : Int) ≤ 90
    ·refine sP hK 14 (.bool true) (by kernel_rfl) (oB (b := (decide ((((c.toNat : Nat) : Int) : Int) ≤ 90))) (by kernel_rfl) (decide_eq_true h4)) fun a hK => ?_
     refine sP hK 15 (.bool true) (by kernel_rfl) (by kernel_rfl) fun a hK => ?_
     refine sP hK 16 (.bool true) (by kernel_rfl) (by kernel_rfl) fun a hK => ?_
     refine sM hK 2 16 (by kernel_rfl) (.inr rfl) rfl fun a hK => ?_
     refine rdo hK [(2, .bool true), (0, .int .u8 ((c.toNat : Nat) : Int))] ⟨rfl, rfl, trivial⟩ fun a hK => ?_
     refine wp_ret ?_
     exact ret_t hK rfl (u := (.bool true)) rfl (⟨congrArg Ending.returned (congrArg Value.bool (by unfold isLetter; rw [(decide_eq_true h1), (decide_eq_false h2), (decide_eq_true h3), (decide_eq_true h4)]; try rfl)), hM.below⟩)
    ·refine sP hK 14 (.bool false) (by kernel_rfl) (oB (b := (decide ((((c.toNat : Nat) : Int) : Int) ≤ 90))) (by kernel_rfl) (decide_eq_false h4)) fun a hK => ?_
     refine sP hK 15 (.bool false) (by kernel_rfl) (by kernel_rfl) fun a hK => ?_
     refine sP hK 16 (.bool false) (by kernel_rfl) (by kernel_rfl) fun a hK => ?_
     refine sM hK 2 16 (by kernel_rfl) (.inr rfl) rfl fun a hK => ?_
     refine rdo hK [(2, .bool false), (0, .int .u8 ((c.toNat : Nat) : Int))] ⟨rfl, rfl, trivial⟩ fun a hK => ?_
     refine wp_ret ?_
     exact ret_t hK rfl (u := (.bool false)) rfl (⟨congrArg Ending.returned (congrArg Value.bool (by unfold isLetter; rw [(decide_eq_true h1), (decide_eq_false h2), (decide_eq_true h3), (decide_eq_false h4)]; try rfl)), hM.below⟩)
   ·refine sP hK 11 (.bool false) (by kernel_rfl) (oB (b := (decide ((65 : Int) ≤ ((c.toNat : Nat) : Int)))) (by kernel_rfl) (decide_eq_false h3)) fun a hK => ?_
    refine sM hK 12 11 (by kernel_rfl) (.inl rfl) rfl fun a hK => ?_
    refine sN hK 13 (by kernel_rfl) fun a hK => ?_
    refine sN hK 14 (by kernel_rfl) fun a hK => ?_
    refine sP hK 15 (.bool false) (by kernel_rfl) (by kernel_rfl) fun a hK => ?_
    refine sP hK 16 (.bool false) (by kernel_rfl) (by kernel_rfl) fun a hK => ?_
    refine sM hK 2 16 (by kernel_rfl) (.inr rfl) rfl fun a hK => ?_
    refine rdo hK [(2, .bool false), (0, .int .u8 ((c.toNat : Nat) : Int))] ⟨rfl, rfl, trivial⟩ fun a hK => ?_
    refine wp_ret ?_
    exact ret_t hK rfl (u := (.bool false)) rfl (⟨congrArg Ending.returned (congrArg Value.bool (by unfold isLetter; rw [(decide_eq_true h1), (decide_eq_false h2), (decide_eq_false h3)]; try rfl)), hM.below⟩)
 ·refine sP hK 4 (.bool false) (by kernel_rfl) (oB (b := (decide ((97 : Int) ≤ ((c.toNat : Nat) : Int)))) (by kernel_rfl) (decide_eq_false h1)) fun a hK => ?_
  refine sM hK 5 4 (by kernel_rfl) (.inl rfl) rfl fun a hK => ?_
  refine sN hK 6 (by kernel_rfl) fun a hK => ?_
  refine sN hK 7 (by kernel_rfl) fun a hK => ?_
  refine sP hK 8 (.bool false) (by kernel_rfl) (by kernel_rfl) fun a hK => ?_
  refine sM hK 9 8 (by kernel_rfl) (.inl rfl) rfl fun a hK => ?_
  refine sM hK 10 0 (by kernel_rfl) (.inl rfl) rfl fun a hK => ?_
  by_cases h5 : (65 : Int) ≤ ((c.toNat : Nat) : Int)
  ·refine sP hK 11 (.bool true) (by kernel_rfl) (oB (b := (decide ((65 : Int) ≤ ((c.toNat : Nat) : Int)))) (by kernel_rfl) (decide_eq_true h5)) fun a hK => ?_
   refine sM hK 12 11 (by kernel_rfl) (.inl rfl) rfl fun a hK => ?_
   refine sM hK 13 0 (by kernel_rfl) (.inl rfl) rfl fun a hK => ?_
   by_cases h6 : (((c.toNat : Nat) : Int) : Int) ≤ 90
   ·refine sP hK 14 (.bool true) (by kernel_rfl) (oB (b := (decide ((((c.toNat : Nat) : Int) : Int) ≤ 90))) (by kernel_rfl) (decide_eq_true h6)) fun a hK => ?_
    refine sP hK 15 (.bool true) (by kernel_rfl) (by kernel_rfl) fun a hK => ?_
    refine sP hK 16 (.bool true) (by kernel_rfl) (by kernel_rfl) fun a hK => ?_
    refine sM hK 2 16 (by kernel_rfl) (.inr rfl) rfl fun a hK => ?_
    refine rdo hK [(2, .bool true), (0, .int .u8 ((c.toNat : Nat) : Int))] ⟨rfl, rfl, trivial⟩ fun a hK => ?_
    refine wp_ret ?_
    exact ret_t hK rfl (u := (.bool true)) rfl (⟨congrArg Ending.returned (congrArg Value.bool (by unfold isLetter; rw [(decide_eq_false h1), (decide_eq_true h5), (decide_eq_true h6)]; try rfl)), hM.below⟩)
   ·refine sP hK 14 (.bool false) (by kernel_rfl) (oB (b := (decide ((((c.toNat : Nat) : Int) : Int) ≤ 90))) (by kernel_rfl) (decide_eq_false h6)) fun a hK => ?_
    refine sP hK 15 (.bool false) (by kernel_rfl) (by kernel_rfl) fun a hK => ?_
    refine sP hK 16 (.bool false) (by kernel_rfl) (by kernel_rfl) fun a hK => ?_
    refine sM hK 2 16 (by kernel_rfl) (.inr rfl) rfl fun a hK => ?_
    refine rdo hK [(2, .bool false), (0, .int .u8 ((c.toNat : Nat) : Int))] ⟨rfl, rfl, trivial⟩ fun a hK => ?_
    refine wp_ret ?_
    exact ret_t hK rfl (u := (.bool false)) rfl (⟨congrArg Ending.returned (congrArg Value.bool (by unfold isLetter; rw [(decide_eq_false h1), (decide_eq_true h5), (decide_eq_false h6)]; try rfl)), hM.below⟩)
  ·refine sP hK 11 (.bool false) (by kernel_rfl) (oB (b := (decide ((65 : Int) ≤ ((c.toNat : Nat) : Int)))) (by kernel_rfl) (decide_eq_false h5)) fun a hK => ?_
   refine sM hK 12 11 (by kernel_rfl) (.inl rfl) rfl fun a hK => ?_
   refine sN hK 13 (by kernel_rfl) fun a hK => ?_
   refine sN hK 14 (by kernel_rfl) fun a hK => ?_
   refine sP hK 15 (.bool false) (by kernel_rfl) (by kernel_rfl) fun a hK => ?_
   refine sP hK 16 (.bool false) (by kernel_rfl) (by kernel_rfl) fun a hK => ?_
   refine sM hK 2 16 (by kernel_rfl) (.inr rfl) rfl fun a hK => ?_
   refine rdo hK [(2, .bool false), (0, .int .u8 ((c.toNat : Nat) : Int))] ⟨rfl, rfl, trivial⟩ fun a hK => ?_
   refine wp_ret ?_
   exact ret_t hK rfl (u := (.bool false)) rfl (⟨congrArg Ending.returned (congrArg Value.bool (by unfold isLetter; rw [(decide_eq_false h1), (decide_eq_false h5)]; try rfl)), hM.below⟩)
theorem en_lex_isLetter : Enters Tryz.prog 96 := enters_of Tryz.func96 (by kernel_rfl) rfl
set_option maxRecDepth 100000 in
set_option maxHeartbeats 4000000 in
theorem lex_isDigit (c : UInt8) (w0 : World) : Calls Tryz.prog 107 #[.int .u8 ((c.toNat : Nat) : Int)] w0 (Ret w0 (.bool (isDigit c))) := by
 refine calls_K (args := [.int .u8 ((c.toNat : Nat) : Int)]) (n := 9) (env := [(0, .int .u8 ((c.toNat : Nat) : Int))]) Tryz.func107 rfl rfl rfl ⟨rfl, trivial⟩ fun a w hK hM => ?_
 refine wp_seq ?_
 refine rg1 (by kernel_rfl) ?_
 refine sP hK 2 (.bool false) (by kernel_rfl) (by kernel_rfl) fun a hK => ?_
 refine rdo hK [(2, .bool false), (0, .int .u8 ((c.toNat : Nat) : Int))] ⟨rfl, rfl, trivial⟩ fun a hK => ?_
 refine wp_seq ?_
 refine rg7 (by kernel_rfl) ?_
 refine sM hK 3 0 (by kernel_rfl) (.inl rfl) rfl fun a hK => ?_
 by_cases h1 : (48 : Int) ≤ ((c.toNat : Nat) : Int)
 ·refine sP hK 4 (.bool true) (by kernel_rfl) (oB (b := (decide ((48 : Int) ≤ ((c.toNat : Nat) : Int)))) (by kernel_rfl) (decide_eq_true h1)) fun a hK => ?_
  refine sM hK 5 4 (by kernel_rfl) (.inl rfl) rfl fun a hK => ?_
  refine sM hK 6 0 (by kernel_rfl) (.inl rfl) rfl fun a hK => ?_
  by_cases h2 : (((c.toNat : Nat) : Int) : Int) ≤ 57
  ·refine sP hK 7 (.bool true) (by kernel_rfl) (oB (b := (decide ((((c.toNat : Nat) : Int) : Int) ≤ 57))) (by kernel_rfl) (decide_eq_true h2)) fun a hK => ?_
   refine sP hK 8 (.bool true) (by kernel_rfl) (by kernel_rfl) fun a hK => ?_
   refine sM hK 2 8 (by kernel_rfl) (.inr rfl) rfl fun a hK => ?_
   refine rdo hK [(2, .bool true), (0, .int .u8 ((c.toNat : Nat) : Int))] ⟨rfl, rfl, trivial⟩ fun a hK => ?_
   refine wp_ret ?_
   exact ret_t hK rfl (u := (.bool true)) rfl (⟨congrArg Ending.returned (congrArg Value.bool (by unfold isDigit; rw [(decide_eq_true h1), (decide_eq_true h2)]; try rfl)), hM.below⟩)
  ·refine sP hK 7 (.bool false) (by kernel_rfl) (oB (b := (decide ((((c.toNat : Nat) : Int) : Int) ≤ 57))) (by kernel_rfl) (decide_eq_false h2)) fun a hK => ?_
   refine sP hK 8 (.bool false) (by kernel_rfl) (by kernel_rfl) fun a hK => ?_
   refine sM hK 2 8 (by kernel_rfl) (.inr rfl) rfl fun a hK => ?_
   refine rdo hK [(2, .bool false), (0, .int .u8 ((c.toNat : Nat) : Int))] ⟨rfl, rfl, trivial⟩ fun a hK => ?_
   refine wp_ret ?_
   exact ret_t hK rfl (u := (.bool false)) rfl (⟨congrArg Ending.returned (congrArg Value.bool (by unfold isDigit; rw [(decide_eq_true h1), (decide_eq_false h2)]; try rfl)), hM.below⟩)
 ·refine sP hK 4 (.bool false) (by kernel_rfl) (oB (b := (decide ((48 : Int) ≤ ((c.toNat : Nat) : Int)))) (by kernel_rfl) (decide_eq_false h1)) fun a hK => ?_
  refine sM hK 5 4 (by kernel_rfl) (.inl rfl) rfl fun a hK => ?_
  refine sN hK 6 (by kernel_rfl) fun a hK => ?_
  refine sN hK 7 (by kernel_rfl) fun a hK => ?_
  refine sP hK 8 (.bool false) (by kernel_rfl) (by kernel_rfl) fun a hK => ?_
  refine sM hK 2 8 (by kernel_rfl) (.inr rfl) rfl fun a hK => ?_
  refine rdo hK [(2, .bool false), (0, .int .u8 ((c.toNat : Nat) : Int))] ⟨rfl, rfl, trivial⟩ fun a hK => ?_
  refine wp_ret ?_
  exact ret_t hK rfl (u := (.bool false)) rfl (⟨congrArg Ending.returned (congrArg Value.bool (by unfold isDigit; rw [(decide_eq_false h1)]; try rfl)), hM.below⟩)
theorem en_lex_isDigit : Enters Tryz.prog 107 := enters_of Tryz.func107 (by kernel_rfl) rfl
set_option maxRecDepth 100000 in
set_option maxHeartbeats 4000000 in
theorem lex_inWord (c : UInt8) (w0 : World) : Calls Tryz.prog 98 #[.int .u8 ((c.toNat : Nat) : Int)] w0 (Ret w0 (.bool (inWordB c))) := by
 refine calls_K (args := [.int .u8 ((c.toNat : Nat) : Int)]) (n := 13) (env := [(0, .int .u8 ((c.toNat : Nat) : Int))]) Tryz.func98 rfl rfl rfl ⟨rfl, trivial⟩ fun a w hK hM => ?_
 refine wp_seq ?_
 refine rg1 (by kernel_rfl) ?_
 refine sP hK 2 (.bool false) (by kernel_rfl) (by kernel_rfl) fun a hK => ?_
 refine rdo hK [(2, .bool false), (0, .int .u8 ((c.toNat : Nat) : Int))] ⟨rfl, rfl, trivial⟩ fun a hK => ?_
 refine wp_seq ?_
 refine rg11 (by kernel_rfl) ?_
 refine sM hK 3 0 (by kernel_rfl) (.inl rfl) rfl fun a hK => ?_
 rcases Bool.eq_false_or_eq_true (isLetter c) with h1 | h1
 ·refine sR hK hM 4 #[.int .u8 ((c.toNat : Nat) : Int)] (.bool true) (by kernel_rfl) (rC en_lex_isLetter rfl rfl (by kernel_rfl)) (ret_eq (lex_isLetter c _) (congrArg Value.bool h1)) fun a w hK hM => ?_
  refine sM hK 5 4 (by kernel_rfl) (.inl rfl) rfl fun a hK => ?_
  refine sN hK 6 (by kernel_rfl) fun a hK => ?_
  refine sN hK 7 (by kernel_rfl) fun a hK => ?_
  refine sP hK 8 (.bool true) (by kernel_rfl) (by kernel_rfl) fun a hK => ?_
  refine sM hK 9 8 (by kernel_rfl) (.inl rfl) rfl fun a hK => ?_
  refine sN hK 10 (by kernel_rfl) fun a hK => ?_
  refine sN hK 11 (by kernel_rfl) fun a hK => ?_
  refine sP hK 12 (.bool true) (by kernel_rfl) (by kernel_rfl) fun a hK => ?_
  refine sM hK 2 12 (by kernel_rfl) (.inr rfl) rfl fun a hK => ?_
  refine rdo hK [(2, .bool true), (0, .int .u8 ((c.toNat : Nat) : Int))] ⟨rfl, rfl, trivial⟩ fun a hK => ?_
  refine wp_ret ?_
  exact ret_t hK rfl (u := (.bool true)) rfl (⟨congrArg Ending.returned (congrArg Value.bool (by unfold inWordB; rw [h1]; try rfl)), hM.below⟩)
 ·refine sR hK hM 4 #[.int .u8 ((c.toNat : Nat) : Int)] (.bool false) (by kernel_rfl) (rC en_lex_isLetter rfl rfl (by kernel_rfl)) (ret_eq (lex_isLetter c _) (congrArg Value.bool h1)) fun a w hK hM => ?_
  refine sM hK 5 4 (by kernel_rfl) (.inl rfl) rfl fun a hK => ?_
  refine sM hK 6 0 (by kernel_rfl) (.inl rfl) rfl fun a hK => ?_
  rcases Bool.eq_false_or_eq_true (isDigit c) with h2 | h2
  ·refine sR hK hM 7 #[.int .u8 ((c.toNat : Nat) : Int)] (.bool true) (by kernel_rfl) (rC en_lex_isDigit rfl rfl (by kernel_rfl)) (ret_eq (lex_isDigit c _) (congrArg Value.bool h2)) fun a w hK hM => ?_
   refine sP hK 8 (.bool true) (by kernel_rfl) (by kernel_rfl) fun a hK => ?_
   refine sM hK 9 8 (by kernel_rfl) (.inl rfl) rfl fun a hK => ?_
   refine sN hK 10 (by kernel_rfl) fun a hK => ?_
   refine sN hK 11 (by kernel_rfl) fun a hK => ?_
   refine sP hK 12 (.bool true) (by kernel_rfl) (by kernel_rfl) fun a hK => ?_
   refine sM hK 2 12 (by kernel_rfl) (.inr rfl) rfl fun a hK => ?_
   refine rdo hK [(2, .bool true), (0, .int .u8 ((c.toNat : Nat) : Int))] ⟨rfl, rfl, trivial⟩ fun a hK => ?_
   refine wp_ret ?_
   exact ret_t hK rfl (u := (.bool true)) rfl (⟨congrArg Ending.returned (congrArg Value.bool (by unfold inWordB; rw [h1, h2]; try rfl)), hM.below⟩)
  ·refine sR hK hM 7 #[.int .u8 ((c.toNat : Nat) : Int)] (.bool false) (by kernel_rfl) (rC en_lex_isDigit rfl rfl (by kernel_rfl)) (ret_eq (lex_isDigit c _) (congrArg Value.bool h2)) fun a w hK hM => ?_
   refine sP hK 8 (.bool false) (by kernel_rfl) (by kernel_rfl) fun a hK => ?_
   refine sM hK 9 8 (by kernel_rfl) (.inl rfl) rfl fun a hK => ?_
   refine sM hK 10 0 (by kernel_rfl) (.inl rfl) rfl fun a hK => ?_
   by_cases h3 : (((c.toNat : Nat) : Int) : Int) = 95
   ·refine sP hK 11 (.bool true) (by kernel_rfl) (oB (b := (decide ((((c.toNat : Nat) : Int) : Int) = 95))) (by kernel_rfl) (decide_eq_true h3)) fun a hK => ?_
    refine sP hK 12 (.bool true) (by kernel_rfl) (by kernel_rfl) fun a hK => ?_
    refine sM hK 2 12 (by kernel_rfl) (.inr rfl) rfl fun a hK => ?_
    refine rdo hK [(2, .bool true), (0, .int .u8 ((c.toNat : Nat) : Int))] ⟨rfl, rfl, trivial⟩ fun a hK => ?_
    refine wp_ret ?_
    exact ret_t hK rfl (u := (.bool true)) rfl (⟨congrArg Ending.returned (congrArg Value.bool (by unfold inWordB; rw [h1, h2, (decide_eq_true h3)]; try rfl)), hM.below⟩)
   ·refine sP hK 11 (.bool false) (by kernel_rfl) (oB (b := (decide ((((c.toNat : Nat) : Int) : Int) = 95))) (by kernel_rfl) (decide_eq_false h3)) fun a hK => ?_
    refine sP hK 12 (.bool false) (by kernel_rfl) (by kernel_rfl) fun a hK => ?_
    refine sM hK 2 12 (by kernel_rfl) (.inr rfl) rfl fun a hK => ?_
    refine rdo hK [(2, .bool false), (0, .int .u8 ((c.toNat : Nat) : Int))] ⟨rfl, rfl, trivial⟩ fun a hK => ?_
    refine wp_ret ?_
    exact ret_t hK rfl (u := (.bool false)) rfl (⟨congrArg Ending.returned (congrArg Value.bool (by unfold inWordB; rw [h1, h2, (decide_eq_false h3)]; try rfl)), hM.below⟩)
theorem en_lex_inWord : Enters Tryz.prog 98 := enters_of Tryz.func98 (by kernel_rfl) rfl
def runL (p : UInt8 → Bool) (l : List UInt8) : Nat := (l.takeWhile p).length
theorem takeWhile_all {p : UInt8 → Bool} : ∀ {l : List UInt8}, (∀ (j : Nat) (c : UInt8), j < l.length → l[j]? = some c → p c = true) → l.takeWhile p = l := by
 intro l h
 have := take_of_all l l.length (Nat.le_refl _) (fun j c hj hc => h j c hj hc) (fun c hc => by rw [List.getElem?_eq_none (Nat.le_refl _)] at hc; cases hc)
 rw [← this, List.take_length]
theorem runL_all {p : UInt8 → Bool} {l : List UInt8} (h : ∀ (j : Nat) (c : UInt8), j < l.length → l[j]? = some c → p c = true) : l.length = runL p l := by
 unfold runL; rw [takeWhile_all h]
theorem runL_at {p : UInt8 → Bool} {l : List UInt8} {i : Nat} {c : UInt8} (hi : i ≤ l.length) (h : ∀ (j : Nat) (c : UInt8), j < i → l[j]? = some c → p c = true) (hc : l[i]? = some c) (hp : p c = false) : i = runL p l := by
 unfold runL
 rw [← take_of_all l i hi h (fun d hd => by rw [hc] at hd; rw [← Option.some.inj hd]; exact hp), List.length_take]
 omega
set_option maxRecDepth 100000 in
set_option maxHeartbeats 4000000 in
theorem lex_run (l : List UInt8) (hlen : l.length ≤ 4611686018427387904) (g : Nat) (p : UInt8 → Bool) (he : Enters Tryz.prog g) (hp : ∀ (c : UInt8) (w : World), Calls Tryz.prog g #[.int .u8 ((c.toNat : Nat) : Int)] w (Ret w (.bool (p c)))) (w0 : World) : Calls Tryz.prog 97 #[Str l, .func (.func g) #[] #[]] w0 (Ret w0 (.int .i64 ((runL p l : Nat) : Int))) := by
 refine calls_K (args := [Str l, .func (.func g) #[] #[]]) (n := 21) (env := [(0, Str l), (1, .func (.func g) #[] #[])]) Tryz.func97 rfl rfl rfl ⟨rfl, rfl, trivial⟩ fun a w hK hM => ?_
 refine wp_seq ?_
 refine rg1 (by kernel_rfl) ?_
 refine sP hK 4 (.int .i64 0) (by kernel_rfl) (by kernel_rfl) fun a hK => ?_
 refine rdo hK [(4, .int .i64 0), (0, Str l), (1, .func (.func g) #[] #[])] ⟨rfl, rfl, rfl, trivial⟩ fun a hK => ?_
 refine wp_seq ?_
 refine wp_seq ?_
 refine rg3 (by kernel_rfl) ?_
 refine sM hK 6 0 (by kernel_rfl) (.inl rfl) rfl fun a hK => ?_
 refine sP hK 7 (.int .i64 ((l.length : Nat) : Int)) (by kernel_rfl) (by kernel_rfl) fun a hK => ?_
 refine sP hK 8 (.int .i64 0) (by kernel_rfl) (by kernel_rfl) fun a hK => ?_
 refine rdo hK [(8, .int .i64 0), (7, .int .i64 ((l.length : Nat) : Int)), (4, .int .i64 0), (0, Str l), (1, .func (.func g) #[] #[])] ⟨rfl, rfl, rfl, rfl, rfl, trivial⟩ fun a hK => ?_
 refine wp_block ?_
 refine wLX (fun x : Nat => [(7, .int .i64 ((l.length : Nat) : Int)), (4, .int .i64 0), (0, Str l), (1, .func (.func g) #[] #[]), (8, vN x)]) (fun x : Nat => []) (fun x : Nat => x ≤ l.length ∧ ∀ (j : Nat) (c : UInt8), j < x → l[j]? = some c → p c = true) (fun x : Nat => l.length - x) 0 (hK.sub ⟨rfl, rfl, rfl, rfl, rfl, trivial⟩) hM ⟨Nat.zero_le _, fun j c hj => absurd hj (Nat.not_lt_zero j)⟩ ?_
 rintro i a w hK hM hR
 replace hK : Knows a 21 [(7, .int .i64 ((l.length : Nat) : Int)), (4, .int .i64 0), (0, Str l), (1, .func (.func g) #[] #[]), (8, vN i)] := hK
 replace hM : Mem w0 w [] := hM
 replace hR : i ≤ l.length ∧ ∀ (j : Nat) (c : UInt8), j < i → l[j]? = some c → p c = true := hR
 refine wp_seq ?_
 refine rg1 (by kernel_rfl) ?_
 by_cases h1 : (((i : Nat) : Int) : Int) < ((l.length : Nat) : Int)
 ·refine sP hK 9 (.bool true) (by kernel_rfl) (oB (b := (decide ((((i : Nat) : Int) : Int) < ((l.length : Nat) : Int)))) (by kernel_rfl) (decide_eq_true h1)) fun a hK => ?_
  refine rdo hK [(9, .bool true), (7, .int .i64 ((l.length : Nat) : Int)), (4, .int .i64 0), (0, Str l), (1, .func (.func g) #[] #[]), (8, vN i)] ⟨rfl, rfl, rfl, rfl, rfl, rfl, trivial⟩ fun a hK => ?_
  refine wp_seq ?_
  refine wp_cond_true (hK.get rfl) ?_
  refine wp_skip ?_
  refine wp_seq ?_
  refine wp_block ?_
  refine wp_seq ?_
  refine rg2 (by kernel_rfl) ?_
  refine sM hK 10 8 (by kernel_rfl) (.inl rfl) rfl fun a hK => ?_
  refine sM hK 5 10 (by kernel_rfl) (.inr rfl) rfl fun a hK => ?_
  refine rdo hK [(5, vN i), (9, .bool true), (7, .int .i64 ((l.length : Nat) : Int)), (4, .int .i64 0), (0, Str l), (1, .func (.func g) #[] #[]), (8, vN i)] ⟨rfl, rfl, rfl, rfl, rfl, rfl, rfl, trivial⟩ fun a hK => ?_
  refine wp_seq ?_
  refine rg6 (by kernel_rfl) ?_
  refine sM hK 11 1 (by kernel_rfl) (.inl rfl) rfl fun a hK => ?_
  refine sM hK 12 0 (by kernel_rfl) (.inl rfl) rfl fun a hK => ?_
  refine sM hK 13 5 (by kernel_rfl) (.inl rfl) rfl fun a hK => ?_
  obtain ⟨c2, hc2⟩ : ∃ c, l[(i : Nat)]? = some c := ⟨_, List.getElem?_eq_getElem (by omega)⟩
  refine sP hK 14 (.int .u8 ((c2.toNat : Nat) : Int)) (by kernel_rfl) (run_idxS (k := i) rfl rfl rfl hc2) fun a hK => ?_
  rcases Bool.eq_false_or_eq_true (p c2) with h3 | h3
  ·refine sR hK hM 15 #[.int .u8 ((c2.toNat : Nat) : Int)] (.bool true) (by kernel_rfl) (rC he rfl rfl (by kernel_rfl)) (ret_eq (hp c2 _) (congrArg Value.bool h3)) fun a w hK hM => ?_
   refine sP hK 16 (.bool false) (by kernel_rfl) (by kernel_rfl) fun a hK => ?_
   refine rdo hK [(16, .bool false), (5, vN i), (9, .bool true), (7, .int .i64 ((l.length : Nat) : Int)), (4, .int .i64 0), (0, Str l), (1, .func (.func g) #[] #[]), (8, vN i)] ⟨rfl, rfl, rfl, rfl, rfl, rfl, rfl, rfl, trivial⟩ fun a hK => ?_
   refine wp_cond_false (hK.get rfl) ?_
   refine wp_skip ?_
   refine rg2 (by kernel_rfl) ?_
   refine sP hK 18 (.int .i64 (((i + 1) : Nat) : Int)) (by kernel_rfl) (run_addN (i := i) (j := 1) rfl rfl rfl (by omega)) fun a hK => ?_
   refine sM hK 8 18 (by kernel_rfl) (.inl rfl) rfl fun a hK => ?_
   refine rdo hK [(8, .int .i64 (((i + 1) : Nat) : Int)), (16, .bool false), (5, vN i), (9, .bool true), (7, .int .i64 ((l.length : Nat) : Int)), (4, .int .i64 0), (0, Str l), (1, .func (.func g) #[] #[])] ⟨rfl, rfl, rfl, rfl, rfl, rfl, rfl, rfl, trivial⟩ fun a hK => ?_
   have hRn : (i + 1) ≤ l.length ∧ ∀ (j : Nat) (c : UInt8), j < (i + 1) → l[j]? = some c → p c = true := ⟨by omega, fun j d hj hd => (Nat.lt_succ_iff_lt_or_eq.1 hj).elim (fun h => hR.2 j d h hd) (fun h => by subst h; rw [hc2] at hd; rw [← Option.some.inj hd]; exact h3)⟩
   have hmn : l.length - (i + 1) < l.length - i := by omega
   exact ⟨i + 1, hK.sub ⟨rfl, rfl, rfl, rfl, rfl, trivial⟩, hM, hRn, hmn⟩
  ·refine sR hK hM 15 #[.int .u8 ((c2.toNat : Nat) : Int)] (.bool false) (by kernel_rfl) (rC he rfl rfl (by kernel_rfl)) (ret_eq (hp c2 _) (congrArg Value.bool h3)) fun a w hK hM => ?_
   refine sP hK 16 (.bool true) (by kernel_rfl) (by kernel_rfl) fun a hK => ?_
   refine rdo hK [(16, .bool true), (5, vN i), (9, .bool true), (7, .int .i64 ((l.length : Nat) : Int)), (4, .int .i64 0), (0, Str l), (1, .func (.func g) #[] #[]), (8, vN i)] ⟨rfl, rfl, rfl, rfl, rfl, rfl, rfl, rfl, trivial⟩ fun a hK => ?_
   refine wp_cond_true (hK.get rfl) ?_
   refine wp_seq ?_
   refine rg2 (by kernel_rfl) ?_
   refine sM hK 17 5 (by kernel_rfl) (.inl rfl) rfl fun a hK => ?_
   refine sM hK 4 17 (by kernel_rfl) (.inr rfl) rfl fun a hK => ?_
   refine rdo hK [(4, vN i), (16, .bool true), (5, vN i), (9, .bool true), (7, .int .i64 ((l.length : Nat) : Int)), (0, Str l), (1, .func (.func g) #[] #[]), (8, vN i)] ⟨rfl, rfl, rfl, rfl, rfl, rfl, rfl, rfl, trivial⟩ fun a hK => ?_
   refine wp_ret ?_
   exact ret_t hK rfl (u := (vN i)) rfl (⟨congrArg (fun q : Nat => Ending.returned (.int .i64 (q : Int))) (runL_at hR.1 hR.2 hc2 h3), hM.below⟩)
 ·refine sP hK 9 (.bool false) (by kernel_rfl) (oB (b := (decide ((((i : Nat) : Int) : Int) < ((l.length : Nat) : Int)))) (by kernel_rfl) (decide_eq_false h1)) fun a hK => ?_
  refine rdo hK [(9, .bool false), (7, .int .i64 ((l.length : Nat) : Int)), (4, .int .i64 0), (0, Str l), (1, .func (.func g) #[] #[]), (8, vN i)] ⟨rfl, rfl, rfl, rfl, rfl, rfl, trivial⟩ fun a hK => ?_
  refine wp_seq ?_
  refine wp_cond_false (hK.get rfl) ?_
  refine wp_exit (exit_then (exit_then (exit_here 0 ?_)))
  refine wp_seq ?_
  refine rg3 (by kernel_rfl) ?_
  refine sM hK 19 0 (by kernel_rfl) (.inl rfl) rfl fun a hK => ?_
  refine sP hK 20 (.int .i64 ((l.length : Nat) : Int)) (by kernel_rfl) (by kernel_rfl) fun a hK => ?_
  refine sM hK 4 20 (by kernel_rfl) (.inr rfl) rfl fun a hK => ?_
  refine rdo hK [(4, .int .i64 ((l.length : Nat) : Int)), (9, .bool false), (7, .int .i64 ((l.length : Nat) : Int)), (0, Str l), (1, .func (.func g) #[] #[]), (8, vN i)] ⟨rfl, rfl, rfl, rfl, rfl, rfl, trivial⟩ fun a hK => ?_
  refine wp_ret ?_
  exact ret_t hK rfl (u := (.int .i64 ((l.length : Nat) : Int))) rfl (⟨congrArg (fun q : Nat => Ending.returned (.int .i64 (q : Int))) (runL_all (fun j c hj hc => hR.2 j c (by omega) hc)), hM.below⟩)
theorem en_lex_run : Enters Tryz.prog 97 := enters_of Tryz.func97 (by kernel_rfl) rfl
def kwEs : Array MapEntry := (setEs 0 keyL).toArray
def kwObj : Obj := .map kwEs 20
set_option maxRecDepth 100000 in
set_option maxHeartbeats 4000000 in
theorem lex_keywords  (w0 : World) : Calls Tryz.prog 100 #[] w0 (Gives w0 (fun b : Nat => .map (some b)) (fun b => [.obj b kwObj]) fun _ => True) := by
 refine calls_K (args := []) (n := 23) (env := []) Tryz.func100 rfl rfl rfl trivial fun a w hK hM => ?_
 refine wp_seq ?_
 refine rg1 (by kernel_rfl) ?_
 refine sP hK 0 (.map none) (by kernel_rfl) (by kernel_rfl) fun a hK => ?_
 refine rdo hK [(0, .map none)] ⟨rfl, trivial⟩ fun a hK => ?_
 refine wp_seq ?_
 refine rg43 (by kernel_rfl) ?_
 refine stepObj hK hM 1 (.map #[] 0) (fun b => .map (some b)) (by kernel_rfl) (by kernel_rfl) fun b1 a w hK hM => ?_
 refine sP hK 2 (.agg #[]) (by kernel_rfl) (by kernel_rfl) fun a hK => ?_
 refine stepSetObj hK hM 0 (.map #[⟨Str [115, 104, 97, 114, 101, 100], .agg #[], 0⟩] 1) (by kernel_rfl) rfl ((run_insS (kt := 9) (et := 60) (s := ⟨List.toArray [115, 104, 97, 114, 101, 100]⟩) (u := (.agg #[])) rfl rfl rfl rfl Tryz.underlying59 Tryz.underlying9 (hM.obj 0 rfl) (by kernel_rfl)).trans (by kernel_rfl)) fun w hM => ?_
 replace hM := hM.to [.obj b1 (.map #[⟨Str [115, 104, 97, 114, 101, 100], .agg #[], 0⟩] 1)] (by kernel_rfl)
 refine sP hK 3 (.agg #[]) (by kernel_rfl) (by kernel_rfl) fun a hK => ?_
 refine stepSetObj hK hM 0 (.map #[⟨Str [115, 104, 97, 114, 101, 100], .agg #[], 0⟩, ⟨Str [112, 108, 97, 105, 110], .agg #[], 1⟩] 2) (by kernel_rfl) rfl ((run_insS (kt := 9) (et := 60) (s := ⟨List.toArray [112, 108, 97, 105, 110]⟩) (u := (.agg #[])) rfl rfl rfl rfl Tryz.underlying59 Tryz.underlying9 (hM.obj 0 rfl) (by kernel_rfl)).trans (by kernel_rfl)) fun w hM => ?_
 replace hM := hM.to [.obj b1 (.map #[⟨Str [115, 104, 97, 114, 101, 100], .agg #[], 0⟩, ⟨Str [112, 108, 97, 105, 110], .agg #[], 1⟩] 2)] (by kernel_rfl)
 refine sP hK 4 (.agg #[]) (by kernel_rfl) (by kernel_rfl) fun a hK => ?_
 refine stepSetObj hK hM 0 (.map #[⟨Str [115, 104, 97, 114, 101, 100], .agg #[], 0⟩, ⟨Str [112, 108, 97, 105, 110], .agg #[], 1⟩, ⟨Str [116, 104, 114, 101, 97, 100], .agg #[], 2⟩] 3) (by kernel_rfl) rfl ((run_insS (kt := 9) (et := 60) (s := ⟨List.toArray [116, 104, 114, 101, 97, 100]⟩) (u := (.agg #[])) rfl rfl rfl rfl Tryz.underlying59 Tryz.underlying9 (hM.obj 0 rfl) (by kernel_rfl)).trans (by kernel_rfl)) fun w hM => ?_
 replace hM := hM.to [.obj b1 (.map #[⟨Str [115, 104, 97, 114, 101, 100], .agg #[], 0⟩, ⟨Str [112, 108, 97, 105, 110], .agg #[], 1⟩, ⟨Str [116, 104, 114, 101, 97, 100], .agg #[], 2⟩] 3)] (by kernel_rfl)
 refine sP hK 5 (.agg #[]) (by kernel_rfl) (by kernel_rfl) fun a hK => ?_
 refine stepSetObj hK hM 0 (.map #[⟨Str [115, 104, 97, 114, 101, 100], .agg #[], 0⟩, ⟨Str [112, 108, 97, 105, 110], .agg #[], 1⟩, ⟨Str [116, 104, 114, 101, 97, 100], .agg #[], 2⟩, ⟨Str [105, 102], .agg #[], 3⟩] 4) (by kernel_rfl) rfl ((run_insS (kt := 9) (et := 60) (s := ⟨List.toArray [105, 102]⟩) (u := (.agg #[])) rfl rfl rfl rfl Tryz.underlying59 Tryz.underlying9 (hM.obj 0 rfl) (by kernel_rfl)).trans (by kernel_rfl)) fun w hM => ?_
 replace hM := hM.to [.obj b1 (.map #[⟨Str [115, 104, 97, 114, 101, 100], .agg #[], 0⟩, ⟨Str [112, 108, 97, 105, 110], .agg #[], 1⟩, ⟨Str [116, 104, 114, 101, 97, 100], .agg #[], 2⟩, ⟨Str [105, 102], .agg #[], 3⟩] 4)] (by kernel_rfl)
 refine sP hK 6 (.agg #[]) (by kernel_rfl) (by kernel_rfl) fun a hK => ?_
 refine stepSetObj hK hM 0 (.map #[⟨Str [115, 104, 97, 114, 101, 100], .agg #[], 0⟩, ⟨Str [112, 108, 97, 105, 110], .agg #[], 1⟩, ⟨Str [116, 104, 114, 101, 97, 100], .agg #[], 2⟩, ⟨Str [105, 102], .agg #[], 3⟩, ⟨Str [101, 108, 115, 101], .agg #[], 4⟩] 5) (by kernel_rfl) rfl ((run_insS (kt := 9) (et := 60) (s := ⟨List.toArray [101, 108, 115, 101]⟩) (u := (.agg #[])) rfl rfl rfl rfl Tryz.underlying59 Tryz.underlying9 (hM.obj 0 rfl) (by kernel_rfl)).trans (by kernel_rfl)) fun w hM => ?_
 replace hM := hM.to [.obj b1 (.map #[⟨Str [115, 104, 97, 114, 101, 100], .agg #[], 0⟩, ⟨Str [112, 108, 97, 105, 110], .agg #[], 1⟩, ⟨Str [116, 104, 114, 101, 97, 100], .agg #[], 2⟩, ⟨Str [105, 102], .agg #[], 3⟩, ⟨Str [101, 108, 115, 101], .agg #[], 4⟩] 5)] (by kernel_rfl)
 refine sP hK 7 (.agg #[]) (by kernel_rfl) (by kernel_rfl) fun a hK => ?_
 refine stepSetObj hK hM 0 (.map #[⟨Str [115, 104, 97, 114, 101, 100], .agg #[], 0⟩, ⟨Str [112, 108, 97, 105, 110], .agg #[], 1⟩, ⟨Str [116, 104, 114, 101, 97, 100], .agg #[], 2⟩, ⟨Str [105, 102], .agg #[], 3⟩, ⟨Str [101, 108, 115, 101], .agg #[], 4⟩, ⟨Str [119, 104, 105, 108, 101], .agg #[], 5⟩] 6) (by kernel_rfl) rfl ((run_insS (kt := 9) (et := 60) (s := ⟨List.toArray [119, 104, 105, 108, 101]⟩) (u := (.agg #[])) rfl rfl rfl rfl Tryz.underlying59 Tryz.underlying9 (hM.obj 0 rfl) (by kernel_rfl)).trans (by kernel_rfl)) fun w hM => ?_
 replace hM := hM.to [.obj b1 (.map #[⟨Str [115, 104, 97, 114, 101, 100], .agg #[], 0⟩, ⟨Str [112, 108, 97, 105, 110], .agg #[], 1⟩, ⟨Str [116, 104, 114, 101, 97, 100], .agg #[], 2⟩, ⟨Str [105, 102], .agg #[], 3⟩, ⟨Str [101, 108, 115, 101], .agg #[], 4⟩, ⟨Str [119, 104, 105, 108, 101], .agg #[], 5⟩] 6)] (by kernel_rfl)
 refine sP hK 8 (.agg #[]) (by kernel_rfl) (by kernel_rfl) fun a hK => ?_
 refine stepSetObj hK hM 0 (.map #[⟨Str [115, 104, 97, 114, 101, 100], .agg #[], 0⟩, ⟨Str [112, 108, 97, 105, 110], .agg #[], 1⟩, ⟨Str [116, 104, 114, 101, 97, 100], .agg #[], 2⟩, ⟨Str [105, 102], .agg #[], 3⟩, ⟨Str [101, 108, 115, 101], .agg #[], 4⟩, ⟨Str [119, 104, 105, 108, 101], .agg #[], 5⟩, ⟨Str [108, 111, 97, 100], .agg #[], 6⟩] 7) (by kernel_rfl) rfl ((run_insS (kt := 9) (et := 60) (s := ⟨List.toArray [108, 111, 97, 100]⟩) (u := (.agg #[])) rfl rfl rfl rfl Tryz.underlying59 Tryz.underlying9 (hM.obj 0 rfl) (by kernel_rfl)).trans (by kernel_rfl)) fun w hM => ?_
 replace hM := hM.to [.obj b1 (.map #[⟨Str [115, 104, 97, 114, 101, 100], .agg #[], 0⟩, ⟨Str [112, 108, 97, 105, 110], .agg #[], 1⟩, ⟨Str [116, 104, 114, 101, 97, 100], .agg #[], 2⟩, ⟨Str [105, 102], .agg #[], 3⟩, ⟨Str [101, 108, 115, 101], .agg #[], 4⟩, ⟨Str [119, 104, 105, 108, 101], .agg #[], 5⟩, ⟨Str [108, 111, 97, 100], .agg #[], 6⟩] 7)] (by kernel_rfl)
 refine sP hK 9 (.agg #[]) (by kernel_rfl) (by kernel_rfl) fun a hK => ?_
 refine stepSetObj hK hM 0 (.map #[⟨Str [115, 104, 97, 114, 101, 100], .agg #[], 0⟩, ⟨Str [112, 108, 97, 105, 110], .agg #[], 1⟩, ⟨Str [116, 104, 114, 101, 97, 100], .agg #[], 2⟩, ⟨Str [105, 102], .agg #[], 3⟩, ⟨Str [101, 108, 115, 101], .agg #[], 4⟩, ⟨Str [119, 104, 105, 108, 101], .agg #[], 5⟩, ⟨Str [108, 111, 97, 100], .agg #[], 6⟩, ⟨Str [115, 116, 111, 114, 101], .agg #[], 7⟩] 8) (by kernel_rfl) rfl ((run_insS (kt := 9) (et := 60) (s := ⟨List.toArray [115, 116, 111, 114, 101]⟩) (u := (.agg #[])) rfl rfl rfl rfl Tryz.underlying59 Tryz.underlying9 (hM.obj 0 rfl) (by kernel_rfl)).trans (by kernel_rfl)) fun w hM => ?_
 replace hM := hM.to [.obj b1 (.map #[⟨Str [115, 104, 97, 114, 101, 100], .agg #[], 0⟩, ⟨Str [112, 108, 97, 105, 110], .agg #[], 1⟩, ⟨Str [116, 104, 114, 101, 97, 100], .agg #[], 2⟩, ⟨Str [105, 102], .agg #[], 3⟩, ⟨Str [101, 108, 115, 101], .agg #[], 4⟩, ⟨Str [119, 104, 105, 108, 101], .agg #[], 5⟩, ⟨Str [108, 111, 97, 100], .agg #[], 6⟩, ⟨Str [115, 116, 111, 114, 101], .agg #[], 7⟩] 8)] (by kernel_rfl)
 refine sP hK 10 (.agg #[]) (by kernel_rfl) (by kernel_rfl) fun a hK => ?_
 refine stepSetObj hK hM 0 (.map #[⟨Str [115, 104, 97, 114, 101, 100], .agg #[], 0⟩, ⟨Str [112, 108, 97, 105, 110], .agg #[], 1⟩, ⟨Str [116, 104, 114, 101, 97, 100], .agg #[], 2⟩, ⟨Str [105, 102], .agg #[], 3⟩, ⟨Str [101, 108, 115, 101], .agg #[], 4⟩, ⟨Str [119, 104, 105, 108, 101], .agg #[], 5⟩, ⟨Str [108, 111, 97, 100], .agg #[], 6⟩, ⟨Str [115, 116, 111, 114, 101], .agg #[], 7⟩, ⟨Str [99, 97, 115], .agg #[], 8⟩] 9) (by kernel_rfl) rfl ((run_insS (kt := 9) (et := 60) (s := ⟨List.toArray [99, 97, 115]⟩) (u := (.agg #[])) rfl rfl rfl rfl Tryz.underlying59 Tryz.underlying9 (hM.obj 0 rfl) (by kernel_rfl)).trans (by kernel_rfl)) fun w hM => ?_
 replace hM := hM.to [.obj b1 (.map #[⟨Str [115, 104, 97, 114, 101, 100], .agg #[], 0⟩, ⟨Str [112, 108, 97, 105, 110], .agg #[], 1⟩, ⟨Str [116, 104, 114, 101, 97, 100], .agg #[], 2⟩, ⟨Str [105, 102], .agg #[], 3⟩, ⟨Str [101, 108, 115, 101], .agg #[], 4⟩, ⟨Str [119, 104, 105, 108, 101], .agg #[], 5⟩, ⟨Str [108, 111, 97, 100], .agg #[], 6⟩, ⟨Str [115, 116, 111, 114, 101], .agg #[], 7⟩, ⟨Str [99, 97, 115], .agg #[], 8⟩] 9)] (by kernel_rfl)
 refine sP hK 11 (.agg #[]) (by kernel_rfl) (by kernel_rfl) fun a hK => ?_
 refine stepSetObj hK hM 0 (.map #[⟨Str [115, 104, 97, 114, 101, 100], .agg #[], 0⟩, ⟨Str [112, 108, 97, 105, 110], .agg #[], 1⟩, ⟨Str [116, 104, 114, 101, 97, 100], .agg #[], 2⟩, ⟨Str [105, 102], .agg #[], 3⟩, ⟨Str [101, 108, 115, 101], .agg #[], 4⟩, ⟨Str [119, 104, 105, 108, 101], .agg #[], 5⟩, ⟨Str [108, 111, 97, 100], .agg #[], 6⟩, ⟨Str [115, 116, 111, 114, 101], .agg #[], 7⟩, ⟨Str [99, 97, 115], .agg #[], 8⟩, ⟨Str [97, 100, 100], .agg #[], 9⟩] 10) (by kernel_rfl) rfl ((run_insS (kt := 9) (et := 60) (s := ⟨List.toArray [97, 100, 100]⟩) (u := (.agg #[])) rfl rfl rfl rfl Tryz.underlying59 Tryz.underlying9 (hM.obj 0 rfl) (by kernel_rfl)).trans (by kernel_rfl)) fun w hM => ?_
 replace hM := hM.to [.obj b1 (.map #[⟨Str [115, 104, 97, 114, 101, 100], .agg #[], 0⟩, ⟨Str [112, 108, 97, 105, 110], .agg #[], 1⟩, ⟨Str [116, 104, 114, 101, 97, 100], .agg #[], 2⟩, ⟨Str [105, 102], .agg #[], 3⟩, ⟨Str [101, 108, 115, 101], .agg #[], 4⟩, ⟨Str [119, 104, 105, 108, 101], .agg #[], 5⟩, ⟨Str [108, 111, 97, 100], .agg #[], 6⟩, ⟨Str [115, 116, 111, 114, 101], .agg #[], 7⟩, ⟨Str [99, 97, 115], .agg #[], 8⟩, ⟨Str [97, 100, 100], .agg #[], 9⟩] 10)] (by kernel_rfl)
 refine sP hK 12 (.agg #[]) (by kernel_rfl) (by kernel_rfl) fun a hK => ?_
 refine stepSetObj hK hM 0 (.map #[⟨Str [115, 104, 97, 114, 101, 100], .agg #[], 0⟩, ⟨Str [112, 108, 97, 105, 110], .agg #[], 1⟩, ⟨Str [116, 104, 114, 101, 97, 100], .agg #[], 2⟩, ⟨Str [105, 102], .agg #[], 3⟩, ⟨Str [101, 108, 115, 101], .agg #[], 4⟩, ⟨Str [119, 104, 105, 108, 101], .agg #[], 5⟩, ⟨Str [108, 111, 97, 100], .agg #[], 6⟩, ⟨Str [115, 116, 111, 114, 101], .agg #[], 7⟩, ⟨Str [99, 97, 115], .agg #[], 8⟩, ⟨Str [97, 100, 100], .agg #[], 9⟩, ⟨Str [115, 119, 97, 112], .agg #[], 10⟩] 11) (by kernel_rfl) rfl ((run_insS (kt := 9) (et := 60) (s := ⟨List.toArray [115, 119, 97, 112]⟩) (u := (.agg #[])) rfl rfl rfl rfl Tryz.underlying59 Tryz.underlying9 (hM.obj 0 rfl) (by kernel_rfl)).trans (by kernel_rfl)) fun w hM => ?_
 replace hM := hM.to [.obj b1 (.map #[⟨Str [115, 104, 97, 114, 101, 100], .agg #[], 0⟩, ⟨Str [112, 108, 97, 105, 110], .agg #[], 1⟩, ⟨Str [116, 104, 114, 101, 97, 100], .agg #[], 2⟩, ⟨Str [105, 102], .agg #[], 3⟩, ⟨Str [101, 108, 115, 101], .agg #[], 4⟩, ⟨Str [119, 104, 105, 108, 101], .agg #[], 5⟩, ⟨Str [108, 111, 97, 100], .agg #[], 6⟩, ⟨Str [115, 116, 111, 114, 101], .agg #[], 7⟩, ⟨Str [99, 97, 115], .agg #[], 8⟩, ⟨Str [97, 100, 100], .agg #[], 9⟩, ⟨Str [115, 119, 97, 112], .agg #[], 10⟩] 11)] (by kernel_rfl)
 refine sP hK 13 (.agg #[]) (by kernel_rfl) (by kernel_rfl) fun a hK => ?_
 refine stepSetObj hK hM 0 (.map #[⟨Str [115, 104, 97, 114, 101, 100], .agg #[], 0⟩, ⟨Str [112, 108, 97, 105, 110], .agg #[], 1⟩, ⟨Str [116, 104, 114, 101, 97, 100], .agg #[], 2⟩, ⟨Str [105, 102], .agg #[], 3⟩, ⟨Str [101, 108, 115, 101], .agg #[], 4⟩, ⟨Str [119, 104, 105, 108, 101], .agg #[], 5⟩, ⟨Str [108, 111, 97, 100], .agg #[], 6⟩, ⟨Str [115, 116, 111, 114, 101], .agg #[], 7⟩, ⟨Str [99, 97, 115], .agg #[], 8⟩, ⟨Str [97, 100, 100], .agg #[], 9⟩, ⟨Str [115, 119, 97, 112], .agg #[], 10⟩, ⟨Str [102, 101, 110, 99, 101], .agg #[], 11⟩] 12) (by kernel_rfl) rfl ((run_insS (kt := 9) (et := 60) (s := ⟨List.toArray [102, 101, 110, 99, 101]⟩) (u := (.agg #[])) rfl rfl rfl rfl Tryz.underlying59 Tryz.underlying9 (hM.obj 0 rfl) (by kernel_rfl)).trans (by kernel_rfl)) fun w hM => ?_
 replace hM := hM.to [.obj b1 (.map #[⟨Str [115, 104, 97, 114, 101, 100], .agg #[], 0⟩, ⟨Str [112, 108, 97, 105, 110], .agg #[], 1⟩, ⟨Str [116, 104, 114, 101, 97, 100], .agg #[], 2⟩, ⟨Str [105, 102], .agg #[], 3⟩, ⟨Str [101, 108, 115, 101], .agg #[], 4⟩, ⟨Str [119, 104, 105, 108, 101], .agg #[], 5⟩, ⟨Str [108, 111, 97, 100], .agg #[], 6⟩, ⟨Str [115, 116, 111, 114, 101], .agg #[], 7⟩, ⟨Str [99, 97, 115], .agg #[], 8⟩, ⟨Str [97, 100, 100], .agg #[], 9⟩, ⟨Str [115, 119, 97, 112], .agg #[], 10⟩, ⟨Str [102, 101, 110, 99, 101], .agg #[], 11⟩] 12)] (by kernel_rfl)
 refine sP hK 14 (.agg #[]) (by kernel_rfl) (by kernel_rfl) fun a hK => ?_
 refine stepSetObj hK hM 0 (.map #[⟨Str [115, 104, 97, 114, 101, 100], .agg #[], 0⟩, ⟨Str [112, 108, 97, 105, 110], .agg #[], 1⟩, ⟨Str [116, 104, 114, 101, 97, 100], .agg #[], 2⟩, ⟨Str [105, 102], .agg #[], 3⟩, ⟨Str [101, 108, 115, 101], .agg #[], 4⟩, ⟨Str [119, 104, 105, 108, 101], .agg #[], 5⟩, ⟨Str [108, 111, 97, 100], .agg #[], 6⟩, ⟨Str [115, 116, 111, 114, 101], .agg #[], 7⟩, ⟨Str [99, 97, 115], .agg #[], 8⟩, ⟨Str [97, 100, 100], .agg #[], 9⟩, ⟨Str [115, 119, 97, 112], .agg #[], 10⟩, ⟨Str [102, 101, 110, 99, 101], .agg #[], 11⟩, ⟨Str [97, 115, 115, 117, 109, 101], .agg #[], 12⟩] 13) (by kernel_rfl) rfl ((run_insS (kt := 9) (et := 60) (s := ⟨List.toArray [97, 115, 115, 117, 109, 101]⟩) (u := (.agg #[])) rfl rfl rfl rfl Tryz.underlying59 Tryz.underlying9 (hM.obj 0 rfl) (by kernel_rfl)).trans (by kernel_rfl)) fun w hM => ?_
 replace hM := hM.to [.obj b1 (.map #[⟨Str [115, 104, 97, 114, 101, 100], .agg #[], 0⟩, ⟨Str [112, 108, 97, 105, 110], .agg #[], 1⟩, ⟨Str [116, 104, 114, 101, 97, 100], .agg #[], 2⟩, ⟨Str [105, 102], .agg #[], 3⟩, ⟨Str [101, 108, 115, 101], .agg #[], 4⟩, ⟨Str [119, 104, 105, 108, 101], .agg #[], 5⟩, ⟨Str [108, 111, 97, 100], .agg #[], 6⟩, ⟨Str [115, 116, 111, 114, 101], .agg #[], 7⟩, ⟨Str [99, 97, 115], .agg #[], 8⟩, ⟨Str [97, 100, 100], .agg #[], 9⟩, ⟨Str [115, 119, 97, 112], .agg #[], 10⟩, ⟨Str [102, 101, 110, 99, 101], .agg #[], 11⟩, ⟨Str [97, 115, 115, 117, 109, 101], .agg #[], 12⟩] 13)] (by kernel_rfl)
 refine sP hK 15 (.agg #[]) (by kernel_rfl) (by kernel_rfl) fun a hK => ?_
 refine stepSetObj hK hM 0 (.map #[⟨Str [115, 104, 97, 114, 101, 100], .agg #[], 0⟩, ⟨Str [112, 108, 97, 105, 110], .agg #[], 1⟩, ⟨Str [116, 104, 114, 101, 97, 100], .agg #[], 2⟩, ⟨Str [105, 102], .agg #[], 3⟩, ⟨Str [101, 108, 115, 101], .agg #[], 4⟩, ⟨Str [119, 104, 105, 108, 101], .agg #[], 5⟩, ⟨Str [108, 111, 97, 100], .agg #[], 6⟩, ⟨Str [115, 116, 111, 114, 101], .agg #[], 7⟩, ⟨Str [99, 97, 115], .agg #[], 8⟩, ⟨Str [97, 100, 100], .agg #[], 9⟩, ⟨Str [115, 119, 97, 112], .agg #[], 10⟩, ⟨Str [102, 101, 110, 99, 101], .agg #[], 11⟩, ⟨Str [97, 115, 115, 117, 109, 101], .agg #[], 12⟩, ⟨Str [97, 115, 115, 101, 114, 116], .agg #[], 13⟩] 14) (by kernel_rfl) rfl ((run_insS (kt := 9) (et := 60) (s := ⟨List.toArray [97, 115, 115, 101, 114, 116]⟩) (u := (.agg #[])) rfl rfl rfl rfl Tryz.underlying59 Tryz.underlying9 (hM.obj 0 rfl) (by kernel_rfl)).trans (by kernel_rfl)) fun w hM => ?_
 replace hM := hM.to [.obj b1 (.map #[⟨Str [115, 104, 97, 114, 101, 100], .agg #[], 0⟩, ⟨Str [112, 108, 97, 105, 110], .agg #[], 1⟩, ⟨Str [116, 104, 114, 101, 97, 100], .agg #[], 2⟩, ⟨Str [105, 102], .agg #[], 3⟩, ⟨Str [101, 108, 115, 101], .agg #[], 4⟩, ⟨Str [119, 104, 105, 108, 101], .agg #[], 5⟩, ⟨Str [108, 111, 97, 100], .agg #[], 6⟩, ⟨Str [115, 116, 111, 114, 101], .agg #[], 7⟩, ⟨Str [99, 97, 115], .agg #[], 8⟩, ⟨Str [97, 100, 100], .agg #[], 9⟩, ⟨Str [115, 119, 97, 112], .agg #[], 10⟩, ⟨Str [102, 101, 110, 99, 101], .agg #[], 11⟩, ⟨Str [97, 115, 115, 117, 109, 101], .agg #[], 12⟩, ⟨Str [97, 115, 115, 101, 114, 116], .agg #[], 13⟩] 14)] (by kernel_rfl)
 refine sP hK 16 (.agg #[]) (by kernel_rfl) (by kernel_rfl) fun a hK => ?_
 refine stepSetObj hK hM 0 (.map #[⟨Str [115, 104, 97, 114, 101, 100], .agg #[], 0⟩, ⟨Str [112, 108, 97, 105, 110], .agg #[], 1⟩, ⟨Str [116, 104, 114, 101, 97, 100], .agg #[], 2⟩, ⟨Str [105, 102], .agg #[], 3⟩, ⟨Str [101, 108, 115, 101], .agg #[], 4⟩, ⟨Str [119, 104, 105, 108, 101], .agg #[], 5⟩, ⟨Str [108, 111, 97, 100], .agg #[], 6⟩, ⟨Str [115, 116, 111, 114, 101], .agg #[], 7⟩, ⟨Str [99, 97, 115], .agg #[], 8⟩, ⟨Str [97, 100, 100], .agg #[], 9⟩, ⟨Str [115, 119, 97, 112], .agg #[], 10⟩, ⟨Str [102, 101, 110, 99, 101], .agg #[], 11⟩, ⟨Str [97, 115, 115, 117, 109, 101], .agg #[], 12⟩, ⟨Str [97, 115, 115, 101, 114, 116], .agg #[], 13⟩, ⟨Str [110, 97], .agg #[], 14⟩] 15) (by kernel_rfl) rfl ((run_insS (kt := 9) (et := 60) (s := ⟨List.toArray [110, 97]⟩) (u := (.agg #[])) rfl rfl rfl rfl Tryz.underlying59 Tryz.underlying9 (hM.obj 0 rfl) (by kernel_rfl)).trans (by kernel_rfl)) fun w hM => ?_
 replace hM := hM.to [.obj b1 (.map #[⟨Str [115, 104, 97, 114, 101, 100], .agg #[], 0⟩, ⟨Str [112, 108, 97, 105, 110], .agg #[], 1⟩, ⟨Str [116, 104, 114, 101, 97, 100], .agg #[], 2⟩, ⟨Str [105, 102], .agg #[], 3⟩, ⟨Str [101, 108, 115, 101], .agg #[], 4⟩, ⟨Str [119, 104, 105, 108, 101], .agg #[], 5⟩, ⟨Str [108, 111, 97, 100], .agg #[], 6⟩, ⟨Str [115, 116, 111, 114, 101], .agg #[], 7⟩, ⟨Str [99, 97, 115], .agg #[], 8⟩, ⟨Str [97, 100, 100], .agg #[], 9⟩, ⟨Str [115, 119, 97, 112], .agg #[], 10⟩, ⟨Str [102, 101, 110, 99, 101], .agg #[], 11⟩, ⟨Str [97, 115, 115, 117, 109, 101], .agg #[], 12⟩, ⟨Str [97, 115, 115, 101, 114, 116], .agg #[], 13⟩, ⟨Str [110, 97], .agg #[], 14⟩] 15)] (by kernel_rfl)
 refine sP hK 17 (.agg #[]) (by kernel_rfl) (by kernel_rfl) fun a hK => ?_
 refine stepSetObj hK hM 0 (.map #[⟨Str [115, 104, 97, 114, 101, 100], .agg #[], 0⟩, ⟨Str [112, 108, 97, 105, 110], .agg #[], 1⟩, ⟨Str [116, 104, 114, 101, 97, 100], .agg #[], 2⟩, ⟨Str [105, 102], .agg #[], 3⟩, ⟨Str [101, 108, 115, 101], .agg #[], 4⟩, ⟨Str [119, 104, 105, 108, 101], .agg #[], 5⟩, ⟨Str [108, 111, 97, 100], .agg #[], 6⟩, ⟨Str [115, 116, 111, 114, 101], .agg #[], 7⟩, ⟨Str [99, 97, 115], .agg #[], 8⟩, ⟨Str [97, 100, 100], .agg #[], 9⟩, ⟨Str [115, 119, 97, 112], .agg #[], 10⟩, ⟨Str [102, 101, 110, 99, 101], .agg #[], 11⟩, ⟨Str [97, 115, 115, 117, 109, 101], .agg #[], 12⟩, ⟨Str [97, 115, 115, 101, 114, 116], .agg #[], 13⟩, ⟨Str [110, 97], .agg #[], 14⟩, ⟨Str [114, 108, 120], .agg #[], 15⟩] 16) (by kernel_rfl) rfl ((run_insS (kt := 9) (et := 60) (s := ⟨List.toArray [114, 108, 120]⟩) (u := (.agg #[])) rfl rfl rfl rfl Tryz.underlying59 Tryz.underlying9 (hM.obj 0 rfl) (by kernel_rfl)).trans (by kernel_rfl)) fun w hM => ?_
 replace hM := hM.to [.obj b1 (.map #[⟨Str [115, 104, 97, 114, 101, 100], .agg #[], 0⟩, ⟨Str [112, 108, 97, 105, 110], .agg #[], 1⟩, ⟨Str [116, 104, 114, 101, 97, 100], .agg #[], 2⟩, ⟨Str [105, 102], .agg #[], 3⟩, ⟨Str [101, 108, 115, 101], .agg #[], 4⟩, ⟨Str [119, 104, 105, 108, 101], .agg #[], 5⟩, ⟨Str [108, 111, 97, 100], .agg #[], 6⟩, ⟨Str [115, 116, 111, 114, 101], .agg #[], 7⟩, ⟨Str [99, 97, 115], .agg #[], 8⟩, ⟨Str [97, 100, 100], .agg #[], 9⟩, ⟨Str [115, 119, 97, 112], .agg #[], 10⟩, ⟨Str [102, 101, 110, 99, 101], .agg #[], 11⟩, ⟨Str [97, 115, 115, 117, 109, 101], .agg #[], 12⟩, ⟨Str [97, 115, 115, 101, 114, 116], .agg #[], 13⟩, ⟨Str [110, 97], .agg #[], 14⟩, ⟨Str [114, 108, 120], .agg #[], 15⟩] 16)] (by kernel_rfl)
 refine sP hK 18 (.agg #[]) (by kernel_rfl) (by kernel_rfl) fun a hK => ?_
 refine stepSetObj hK hM 0 (.map #[⟨Str [115, 104, 97, 114, 101, 100], .agg #[], 0⟩, ⟨Str [112, 108, 97, 105, 110], .agg #[], 1⟩, ⟨Str [116, 104, 114, 101, 97, 100], .agg #[], 2⟩, ⟨Str [105, 102], .agg #[], 3⟩, ⟨Str [101, 108, 115, 101], .agg #[], 4⟩, ⟨Str [119, 104, 105, 108, 101], .agg #[], 5⟩, ⟨Str [108, 111, 97, 100], .agg #[], 6⟩, ⟨Str [115, 116, 111, 114, 101], .agg #[], 7⟩, ⟨Str [99, 97, 115], .agg #[], 8⟩, ⟨Str [97, 100, 100], .agg #[], 9⟩, ⟨Str [115, 119, 97, 112], .agg #[], 10⟩, ⟨Str [102, 101, 110, 99, 101], .agg #[], 11⟩, ⟨Str [97, 115, 115, 117, 109, 101], .agg #[], 12⟩, ⟨Str [97, 115, 115, 101, 114, 116], .agg #[], 13⟩, ⟨Str [110, 97], .agg #[], 14⟩, ⟨Str [114, 108, 120], .agg #[], 15⟩, ⟨Str [97, 99, 113], .agg #[], 16⟩] 17) (by kernel_rfl) rfl ((run_insS (kt := 9) (et := 60) (s := ⟨List.toArray [97, 99, 113]⟩) (u := (.agg #[])) rfl rfl rfl rfl Tryz.underlying59 Tryz.underlying9 (hM.obj 0 rfl) (by kernel_rfl)).trans (by kernel_rfl)) fun w hM => ?_
 replace hM := hM.to [.obj b1 (.map #[⟨Str [115, 104, 97, 114, 101, 100], .agg #[], 0⟩, ⟨Str [112, 108, 97, 105, 110], .agg #[], 1⟩, ⟨Str [116, 104, 114, 101, 97, 100], .agg #[], 2⟩, ⟨Str [105, 102], .agg #[], 3⟩, ⟨Str [101, 108, 115, 101], .agg #[], 4⟩, ⟨Str [119, 104, 105, 108, 101], .agg #[], 5⟩, ⟨Str [108, 111, 97, 100], .agg #[], 6⟩, ⟨Str [115, 116, 111, 114, 101], .agg #[], 7⟩, ⟨Str [99, 97, 115], .agg #[], 8⟩, ⟨Str [97, 100, 100], .agg #[], 9⟩, ⟨Str [115, 119, 97, 112], .agg #[], 10⟩, ⟨Str [102, 101, 110, 99, 101], .agg #[], 11⟩, ⟨Str [97, 115, 115, 117, 109, 101], .agg #[], 12⟩, ⟨Str [97, 115, 115, 101, 114, 116], .agg #[], 13⟩, ⟨Str [110, 97], .agg #[], 14⟩, ⟨Str [114, 108, 120], .agg #[], 15⟩, ⟨Str [97, 99, 113], .agg #[], 16⟩] 17)] (by kernel_rfl)
 refine sP hK 19 (.agg #[]) (by kernel_rfl) (by kernel_rfl) fun a hK => ?_
 refine stepSetObj hK hM 0 (.map #[⟨Str [115, 104, 97, 114, 101, 100], .agg #[], 0⟩, ⟨Str [112, 108, 97, 105, 110], .agg #[], 1⟩, ⟨Str [116, 104, 114, 101, 97, 100], .agg #[], 2⟩, ⟨Str [105, 102], .agg #[], 3⟩, ⟨Str [101, 108, 115, 101], .agg #[], 4⟩, ⟨Str [119, 104, 105, 108, 101], .agg #[], 5⟩, ⟨Str [108, 111, 97, 100], .agg #[], 6⟩, ⟨Str [115, 116, 111, 114, 101], .agg #[], 7⟩, ⟨Str [99, 97, 115], .agg #[], 8⟩, ⟨Str [97, 100, 100], .agg #[], 9⟩, ⟨Str [115, 119, 97, 112], .agg #[], 10⟩, ⟨Str [102, 101, 110, 99, 101], .agg #[], 11⟩, ⟨Str [97, 115, 115, 117, 109, 101], .agg #[], 12⟩, ⟨Str [97, 115, 115, 101, 114, 116], .agg #[], 13⟩, ⟨Str [110, 97], .agg #[], 14⟩, ⟨Str [114, 108, 120], .agg #[], 15⟩, ⟨Str [97, 99, 113], .agg #[], 16⟩, ⟨Str [114, 101, 108], .agg #[], 17⟩] 18) (by kernel_rfl) rfl ((run_insS (kt := 9) (et := 60) (s := ⟨List.toArray [114, 101, 108]⟩) (u := (.agg #[])) rfl rfl rfl rfl Tryz.underlying59 Tryz.underlying9 (hM.obj 0 rfl) (by kernel_rfl)).trans (by kernel_rfl)) fun w hM => ?_
 replace hM := hM.to [.obj b1 (.map #[⟨Str [115, 104, 97, 114, 101, 100], .agg #[], 0⟩, ⟨Str [112, 108, 97, 105, 110], .agg #[], 1⟩, ⟨Str [116, 104, 114, 101, 97, 100], .agg #[], 2⟩, ⟨Str [105, 102], .agg #[], 3⟩, ⟨Str [101, 108, 115, 101], .agg #[], 4⟩, ⟨Str [119, 104, 105, 108, 101], .agg #[], 5⟩, ⟨Str [108, 111, 97, 100], .agg #[], 6⟩, ⟨Str [115, 116, 111, 114, 101], .agg #[], 7⟩, ⟨Str [99, 97, 115], .agg #[], 8⟩, ⟨Str [97, 100, 100], .agg #[], 9⟩, ⟨Str [115, 119, 97, 112], .agg #[], 10⟩, ⟨Str [102, 101, 110, 99, 101], .agg #[], 11⟩, ⟨Str [97, 115, 115, 117, 109, 101], .agg #[], 12⟩, ⟨Str [97, 115, 115, 101, 114, 116], .agg #[], 13⟩, ⟨Str [110, 97], .agg #[], 14⟩, ⟨Str [114, 108, 120], .agg #[], 15⟩, ⟨Str [97, 99, 113], .agg #[], 16⟩, ⟨Str [114, 101, 108], .agg #[], 17⟩] 18)] (by kernel_rfl)
 refine sP hK 20 (.agg #[]) (by kernel_rfl) (by kernel_rfl) fun a hK => ?_
 refine stepSetObj hK hM 0 (.map #[⟨Str [115, 104, 97, 114, 101, 100], .agg #[], 0⟩, ⟨Str [112, 108, 97, 105, 110], .agg #[], 1⟩, ⟨Str [116, 104, 114, 101, 97, 100], .agg #[], 2⟩, ⟨Str [105, 102], .agg #[], 3⟩, ⟨Str [101, 108, 115, 101], .agg #[], 4⟩, ⟨Str [119, 104, 105, 108, 101], .agg #[], 5⟩, ⟨Str [108, 111, 97, 100], .agg #[], 6⟩, ⟨Str [115, 116, 111, 114, 101], .agg #[], 7⟩, ⟨Str [99, 97, 115], .agg #[], 8⟩, ⟨Str [97, 100, 100], .agg #[], 9⟩, ⟨Str [115, 119, 97, 112], .agg #[], 10⟩, ⟨Str [102, 101, 110, 99, 101], .agg #[], 11⟩, ⟨Str [97, 115, 115, 117, 109, 101], .agg #[], 12⟩, ⟨Str [97, 115, 115, 101, 114, 116], .agg #[], 13⟩, ⟨Str [110, 97], .agg #[], 14⟩, ⟨Str [114, 108, 120], .agg #[], 15⟩, ⟨Str [97, 99, 113], .agg #[], 16⟩, ⟨Str [114, 101, 108], .agg #[], 17⟩, ⟨Str [97, 114], .agg #[], 18⟩] 19) (by kernel_rfl) rfl ((run_insS (kt := 9) (et := 60) (s := ⟨List.toArray [97, 114]⟩) (u := (.agg #[])) rfl rfl rfl rfl Tryz.underlying59 Tryz.underlying9 (hM.obj 0 rfl) (by kernel_rfl)).trans (by kernel_rfl)) fun w hM => ?_
 replace hM := hM.to [.obj b1 (.map #[⟨Str [115, 104, 97, 114, 101, 100], .agg #[], 0⟩, ⟨Str [112, 108, 97, 105, 110], .agg #[], 1⟩, ⟨Str [116, 104, 114, 101, 97, 100], .agg #[], 2⟩, ⟨Str [105, 102], .agg #[], 3⟩, ⟨Str [101, 108, 115, 101], .agg #[], 4⟩, ⟨Str [119, 104, 105, 108, 101], .agg #[], 5⟩, ⟨Str [108, 111, 97, 100], .agg #[], 6⟩, ⟨Str [115, 116, 111, 114, 101], .agg #[], 7⟩, ⟨Str [99, 97, 115], .agg #[], 8⟩, ⟨Str [97, 100, 100], .agg #[], 9⟩, ⟨Str [115, 119, 97, 112], .agg #[], 10⟩, ⟨Str [102, 101, 110, 99, 101], .agg #[], 11⟩, ⟨Str [97, 115, 115, 117, 109, 101], .agg #[], 12⟩, ⟨Str [97, 115, 115, 101, 114, 116], .agg #[], 13⟩, ⟨Str [110, 97], .agg #[], 14⟩, ⟨Str [114, 108, 120], .agg #[], 15⟩, ⟨Str [97, 99, 113], .agg #[], 16⟩, ⟨Str [114, 101, 108], .agg #[], 17⟩, ⟨Str [97, 114], .agg #[], 18⟩] 19)] (by kernel_rfl)
 refine sP hK 21 (.agg #[]) (by kernel_rfl) (by kernel_rfl) fun a hK => ?_
 refine stepSetObj hK hM 0 (.map #[⟨Str [115, 104, 97, 114, 101, 100], .agg #[], 0⟩, ⟨Str [112, 108, 97, 105, 110], .agg #[], 1⟩, ⟨Str [116, 104, 114, 101, 97, 100], .agg #[], 2⟩, ⟨Str [105, 102], .agg #[], 3⟩, ⟨Str [101, 108, 115, 101], .agg #[], 4⟩, ⟨Str [119, 104, 105, 108, 101], .agg #[], 5⟩, ⟨Str [108, 111, 97, 100], .agg #[], 6⟩, ⟨Str [115, 116, 111, 114, 101], .agg #[], 7⟩, ⟨Str [99, 97, 115], .agg #[], 8⟩, ⟨Str [97, 100, 100], .agg #[], 9⟩, ⟨Str [115, 119, 97, 112], .agg #[], 10⟩, ⟨Str [102, 101, 110, 99, 101], .agg #[], 11⟩, ⟨Str [97, 115, 115, 117, 109, 101], .agg #[], 12⟩, ⟨Str [97, 115, 115, 101, 114, 116], .agg #[], 13⟩, ⟨Str [110, 97], .agg #[], 14⟩, ⟨Str [114, 108, 120], .agg #[], 15⟩, ⟨Str [97, 99, 113], .agg #[], 16⟩, ⟨Str [114, 101, 108], .agg #[], 17⟩, ⟨Str [97, 114], .agg #[], 18⟩, ⟨Str [115, 99], .agg #[], 19⟩] 20) (by kernel_rfl) rfl ((run_insS (kt := 9) (et := 60) (s := ⟨List.toArray [115, 99]⟩) (u := (.agg #[])) rfl rfl rfl rfl Tryz.underlying59 Tryz.underlying9 (hM.obj 0 rfl) (by kernel_rfl)).trans (by kernel_rfl)) fun w hM => ?_
 replace hM := hM.to [.obj b1 (.map #[⟨Str [115, 104, 97, 114, 101, 100], .agg #[], 0⟩, ⟨Str [112, 108, 97, 105, 110], .agg #[], 1⟩, ⟨Str [116, 104, 114, 101, 97, 100], .agg #[], 2⟩, ⟨Str [105, 102], .agg #[], 3⟩, ⟨Str [101, 108, 115, 101], .agg #[], 4⟩, ⟨Str [119, 104, 105, 108, 101], .agg #[], 5⟩, ⟨Str [108, 111, 97, 100], .agg #[], 6⟩, ⟨Str [115, 116, 111, 114, 101], .agg #[], 7⟩, ⟨Str [99, 97, 115], .agg #[], 8⟩, ⟨Str [97, 100, 100], .agg #[], 9⟩, ⟨Str [115, 119, 97, 112], .agg #[], 10⟩, ⟨Str [102, 101, 110, 99, 101], .agg #[], 11⟩, ⟨Str [97, 115, 115, 117, 109, 101], .agg #[], 12⟩, ⟨Str [97, 115, 115, 101, 114, 116], .agg #[], 13⟩, ⟨Str [110, 97], .agg #[], 14⟩, ⟨Str [114, 108, 120], .agg #[], 15⟩, ⟨Str [97, 99, 113], .agg #[], 16⟩, ⟨Str [114, 101, 108], .agg #[], 17⟩, ⟨Str [97, 114], .agg #[], 18⟩, ⟨Str [115, 99], .agg #[], 19⟩] 20)] (by kernel_rfl)
 refine sM hK 22 1 (by kernel_rfl) (.inl rfl) rfl fun a hK => ?_
 refine sM hK 0 22 (by kernel_rfl) (.inr rfl) rfl fun a hK => ?_
 refine rdo hK [(0, .map (some b1))] ⟨rfl, trivial⟩ fun a hK => ?_
 refine wp_ret ?_
 replace hM := hM.to [.obj b1 kwObj] (by kernel_rfl)
 exact ret_t hK rfl (u := (.map (some b1))) rfl (⟨b1, rfl, hM, trivial⟩)
theorem en_lex_keywords : Enters Tryz.prog 100 := enters_of Tryz.func100 (by kernel_rfl) rfl
theorem kw_kind_true {l : List UInt8} (h : keyL.contains l = true) : 2 = kindOf l := by unfold kindOf; rw [if_pos (by simpa using h)]
theorem kw_kind_false {l : List UInt8} (h : keyL.contains l = false) : 1 = kindOf l := by unfold kindOf; rw [if_neg (by simpa using h)]
set_option maxRecDepth 100000 in
set_option maxHeartbeats 4000000 in
theorem lex_wordKind (l : List UInt8) (b : Nat) (w0 : World) (hb1 : b < w0.heap.size) (hb2 : w0.heap[b]? = some kwObj) : Calls Tryz.prog 99 #[Str l, .map (some b)] w0 (Ret w0 (.int .i64 ((kindOf l : Nat) : Int))) := by
 refine calls_K (args := [Str l, .map (some b)]) (n := 14) (env := [(0, Str l), (1, .map (some b))]) Tryz.func99 rfl rfl rfl ⟨rfl, rfl, trivial⟩ fun a w hK hM => ?_
 refine wp_seq ?_
 refine rg1 (by kernel_rfl) ?_
 refine sP hK 4 (.int .i64 0) (by kernel_rfl) (by kernel_rfl) fun a hK => ?_
 refine rdo hK [(4, .int .i64 0), (0, Str l), (1, .map (some b))] ⟨rfl, rfl, rfl, trivial⟩ fun a hK => ?_
 refine wp_seq ?_
 refine wp_seq ?_
 refine rg9 (by kernel_rfl) ?_
 refine sM hK 8 1 (by kernel_rfl) (.inl rfl) rfl fun a hK => ?_
 refine sM hK 9 0 (by kernel_rfl) (.inl rfl) rfl fun a hK => ?_
 rcases Bool.eq_false_or_eq_true (keyL.contains l) with h1 | h1
 ·obtain ⟨j, hj⟩ := set_yes keyL l 0 h1
  refine sP hK 10 (.tuple #[.agg #[], .bool true]) (by kernel_rfl) (run_lookS_yes (kt := 9) (et := 60) rfl rfl rfl Tryz.underlying59 Tryz.underlying9 ((hM.below.block _ hb1).trans hb2) hj) fun a hK => ?_
  refine sM hK 7 10 (by kernel_rfl) (.inl rfl) rfl fun a hK => ?_
  refine sP hK 11 (.agg #[]) (by kernel_rfl) (by kernel_rfl) fun a hK => ?_
  refine sP hK 12 (.bool true) (by kernel_rfl) (by kernel_rfl) fun a hK => ?_
  refine sA hK hM 5 60 [] (fun b => pA b 0) (by kernel_rfl) (by kernel_rfl) fun b2 a w hK hM => ?_
  refine sS hK hM 0 [] (by kernel_rfl) rfl rfl rfl rfl (by kernel_rfl) fun w hM => ?_
  replace hM := hM.to [.row b2 60 []] (by kernel_rfl)
  refine sM hK 6 12 (by kernel_rfl) (.inr rfl) rfl fun a hK => ?_
  refine rdo hK [(6, .bool true), (4, .int .i64 0), (0, Str l), (1, .map (some b))] ⟨rfl, rfl, rfl, rfl, trivial⟩ fun a hK => ?_
  refine wp_seq ?_
  refine rg1 (by kernel_rfl) ?_
  refine sM hK 13 6 (by kernel_rfl) (.inl rfl) rfl fun a hK => ?_
  refine rdo hK [(13, .bool true), (6, .bool true), (4, .int .i64 0), (0, Str l), (1, .map (some b))] ⟨rfl, rfl, rfl, rfl, rfl, trivial⟩ fun a hK => ?_
  refine wp_cond_true (hK.get rfl) ?_
  refine wp_seq ?_
  refine rg1 (by kernel_rfl) ?_
  refine sP hK 4 (.int .i64 2) (by kernel_rfl) (by kernel_rfl) fun a hK => ?_
  refine rdo hK [(4, .int .i64 2), (13, .bool true), (6, .bool true), (0, Str l), (1, .map (some b))] ⟨rfl, rfl, rfl, rfl, rfl, trivial⟩ fun a hK => ?_
  refine wp_ret ?_
  exact ret_t hK rfl (u := (.int .i64 2)) rfl (⟨congrArg (fun q : Nat => Ending.returned (.int .i64 (q : Int))) (kw_kind_true h1), hM.below⟩)
 ·refine sP hK 10 (.tuple #[.agg #[], .bool false]) (by kernel_rfl) (run_lookS_no (kt := 9) (et := 60) rfl rfl rfl Tryz.underlying59 Tryz.underlying9 ((hM.below.block _ hb1).trans hb2) (by kernel_rfl) (set_no keyL l 0 h1)) fun a hK => ?_
  refine sM hK 7 10 (by kernel_rfl) (.inl rfl) rfl fun a hK => ?_
  refine sP hK 11 (.agg #[]) (by kernel_rfl) (by kernel_rfl) fun a hK => ?_
  refine sP hK 12 (.bool false) (by kernel_rfl) (by kernel_rfl) fun a hK => ?_
  refine sA hK hM 5 60 [] (fun b => pA b 0) (by kernel_rfl) (by kernel_rfl) fun b3 a w hK hM => ?_
  refine sS hK hM 0 [] (by kernel_rfl) rfl rfl rfl rfl (by kernel_rfl) fun w hM => ?_
  replace hM := hM.to [.row b3 60 []] (by kernel_rfl)
  refine sM hK 6 12 (by kernel_rfl) (.inr rfl) rfl fun a hK => ?_
  refine rdo hK [(6, .bool false), (4, .int .i64 0), (0, Str l), (1, .map (some b))] ⟨rfl, rfl, rfl, rfl, trivial⟩ fun a hK => ?_
  refine wp_seq ?_
  refine rg1 (by kernel_rfl) ?_
  refine sM hK 13 6 (by kernel_rfl) (.inl rfl) rfl fun a hK => ?_
  refine rdo hK [(13, .bool false), (6, .bool false), (4, .int .i64 0), (0, Str l), (1, .map (some b))] ⟨rfl, rfl, rfl, rfl, rfl, trivial⟩ fun a hK => ?_
  refine wp_cond_false (hK.get rfl) ?_
  refine wp_skip ?_
  refine wp_seq ?_
  refine rg1 (by kernel_rfl) ?_
  refine sP hK 4 (.int .i64 1) (by kernel_rfl) (by kernel_rfl) fun a hK => ?_
  refine rdo hK [(4, .int .i64 1), (13, .bool false), (6, .bool false), (0, Str l), (1, .map (some b))] ⟨rfl, rfl, rfl, rfl, rfl, trivial⟩ fun a hK => ?_
  refine wp_ret ?_
  exact ret_t hK rfl (u := (.int .i64 1)) rfl (⟨congrArg (fun q : Nat => Ending.returned (.int .i64 (q : Int))) (kw_kind_false h1), hM.below⟩)
theorem en_lex_wordKind : Enters Tryz.prog 99 := enters_of Tryz.func99 (by kernel_rfl) rfl
theorem inWordB_eq : inWordB = wordB := by
 funext c; unfold inWordB wordB
 rw [Bool.or_assoc]; rfl
def wordV (l : List UInt8) : Value := match l with
 | [] => .tuple #[.int .i64 0, .bool false]
 | c :: r => if (isLetter c && (c :: r).all wordB) = true then .tuple #[.int .i64 ((kindOf (c :: r) : Nat) : Int), .bool true] else .tuple #[.int .i64 0, .bool false]
theorem runL_lt (l : List UInt8) : runL inWordB l < l.length ↔ l.all wordB = false := by
 rw [inWordB_eq]; unfold runL
 constructor
 ·intro h
  cases e : l.all wordB with
  | false => rfl
  | true =>
   rw [takeWhile_all (fun j c _ hc => List.all_eq_true.1 e c (List.mem_of_getElem? hc))] at h
   omega
 ·intro h
  have h1 := (List.takeWhile_prefix (p := wordB) (l := l)).length_le
  rcases Nat.lt_or_ge (l.takeWhile wordB).length l.length with h2 | h2
  ·exact h2
  ·have : l.takeWhile wordB = l := (List.takeWhile_prefix _).eq_of_length (by omega)
   have h3 := List.all_takeWhile (p := wordB) (l := l)
   rw [this, h] at h3; cases h3
section
variable {l : List UInt8} {c : UInt8}
theorem wordV_no1 (hc : l[0]? = some c) (h : isLetter c = false) : wordV l = .tuple #[.int .i64 0, .bool false] := by
 cases l with
 | nil => cases hc
 | cons a r => obtain rfl := Option.some.inj hc; unfold wordV; simp only; rw [h, Bool.false_and, if_neg (by decide)]
theorem wordV_no2 (hc : l[0]? = some c) (h : runL inWordB l < l.length) : wordV l = .tuple #[.int .i64 0, .bool false] := by
 cases l with
 | nil => cases hc
 | cons a r => unfold wordV; simp only; rw [(runL_lt _).1 h, Bool.and_false, if_neg (by decide)]
theorem wordV_yes (hc : l[0]? = some c) (h : isLetter c = true) (h2 : ¬ runL inWordB l < l.length) : wordV l = .tuple #[.int .i64 ((kindOf l : Nat) : Int), .bool true] := by
 cases l with
 | nil => cases hc
 | cons a r =>
  obtain rfl := Option.some.inj hc
  have e : (a :: r).all wordB = true := by
   rcases Bool.eq_false_or_eq_true ((a :: r).all wordB) with h' | h'
   ·exact h'
   ·exact absurd ((runL_lt _).2 h') h2
  unfold wordV; simp only; rw [h, e, if_pos (by decide)]
end
set_option maxRecDepth 100000 in
set_option maxHeartbeats 4000000 in
theorem lex_Word (l : List UInt8) (hlen : l.length ≤ 4611686018427387904) (w0 : World) : Calls Tryz.prog 84 #[Str l] w0 (Ret w0 (wordV l)) := by
 refine calls_K (args := [Str l]) (n := 22) (env := [(0, Str l)]) Tryz.func84 rfl rfl rfl ⟨rfl, trivial⟩ fun a w hK hM => ?_
 refine wp_seq ?_
 refine rg2 (by kernel_rfl) ?_
 refine sP hK 2 (.int .i64 0) (by kernel_rfl) (by kernel_rfl) fun a hK => ?_
 refine sP hK 3 (.bool false) (by kernel_rfl) (by kernel_rfl) fun a hK => ?_
 refine rdo hK [(3, .bool false), (2, .int .i64 0), (0, Str l)] ⟨rfl, rfl, rfl, trivial⟩ fun a hK => ?_
 refine wp_seq ?_
 refine wp_seq ?_
 refine rg15 (by kernel_rfl) ?_
 refine sM hK 4 0 (by kernel_rfl) (.inl rfl) rfl fun a hK => ?_
 by_cases h1 : l = []
 ·refine sP hK 5 (.bool true) (by kernel_rfl) (oB (b := (decide (l = []))) (run_eqS rfl rfl rfl) (decide_eq_true h1)) fun a hK => ?_
  refine sM hK 6 5 (by kernel_rfl) (.inl rfl) rfl fun a hK => ?_
  refine sN hK 7 (by kernel_rfl) fun a hK => ?_
  refine sN hK 8 (by kernel_rfl) fun a hK => ?_
  refine sN hK 9 (by kernel_rfl) fun a hK => ?_
  refine sN hK 10 (by kernel_rfl) fun a hK => ?_
  refine sP hK 11 (.bool true) (by kernel_rfl) (by kernel_rfl) fun a hK => ?_
  refine sM hK 12 11 (by kernel_rfl) (.inl rfl) rfl fun a hK => ?_
  refine sN hK 13 (by kernel_rfl) fun a hK => ?_
  refine sN hK 14 (by kernel_rfl) fun a hK => ?_
  refine sN hK 15 (by kernel_rfl) fun a hK => ?_
  refine sN hK 16 (by kernel_rfl) fun a hK => ?_
  refine sN hK 17 (by kernel_rfl) fun a hK => ?_
  refine sP hK 18 (.bool true) (by kernel_rfl) (by kernel_rfl) fun a hK => ?_
  refine rdo hK [(18, .bool true), (3, .bool false), (2, .int .i64 0), (0, Str l)] ⟨rfl, rfl, rfl, rfl, trivial⟩ fun a hK => ?_
  refine wp_cond_true (hK.get rfl) ?_
  refine wp_seq ?_
  refine rg2 (by kernel_rfl) ?_
  refine sP hK 2 (.int .i64 0) (by kernel_rfl) (by kernel_rfl) fun a hK => ?_
  refine sP hK 3 (.bool false) (by kernel_rfl) (by kernel_rfl) fun a hK => ?_
  refine rdo hK [(3, .bool false), (2, .int .i64 0), (18, .bool true), (0, Str l)] ⟨rfl, rfl, rfl, rfl, trivial⟩ fun a hK => ?_
  refine wp_ret ?_
  exact ret_tt hK rfl (u := (.int .i64 0)) (v := (.bool false)) rfl rfl (⟨by rw [h1]; rfl, hM.below⟩)
 ·refine sP hK 5 (.bool false) (by kernel_rfl) (oB (b := (decide (l = []))) (run_eqS rfl rfl rfl) (decide_eq_false h1)) fun a hK => ?_
  refine sM hK 6 5 (by kernel_rfl) (.inl rfl) rfl fun a hK => ?_
  refine sM hK 7 0 (by kernel_rfl) (.inl rfl) rfl fun a hK => ?_
  obtain ⟨c2, hc2⟩ : ∃ c, l[(0 : Nat)]? = some c := ⟨_, List.getElem?_eq_getElem (by have : l.length ≠ 0 := fun e => h1 (List.eq_nil_of_length_eq_zero e); omega)⟩
  refine sP hK 8 (.int .u8 ((c2.toNat : Nat) : Int)) (by kernel_rfl) (run_idxS (k := 0) rfl rfl rfl hc2) fun a hK => ?_
  rcases Bool.eq_false_or_eq_true (isLetter c2) with h3 | h3
  ·refine sR hK hM 9 #[.int .u8 ((c2.toNat : Nat) : Int)] (.bool true) (by kernel_rfl) (rC en_lex_isLetter rfl rfl (by kernel_rfl)) (ret_eq (lex_isLetter c2 _) (congrArg Value.bool h3)) fun a w hK hM => ?_
   refine sP hK 10 (.bool false) (by kernel_rfl) (by kernel_rfl) fun a hK => ?_
   refine sP hK 11 (.bool false) (by kernel_rfl) (by kernel_rfl) fun a hK => ?_
   refine sM hK 12 11 (by kernel_rfl) (.inl rfl) rfl fun a hK => ?_
   refine sM hK 13 0 (by kernel_rfl) (.inl rfl) rfl fun a hK => ?_
   refine sR hK hM 14 #[Str l, .func (.func 98) #[] #[]] (.int .i64 (((runL inWordB l) : Nat) : Int)) (by kernel_rfl) (rC en_lex_run rfl rfl (by kernel_rfl)) (lex_run l (by first | omega | (rw [List.length_drop]; omega) | (rw [List.length_take]; omega) | (rw [List.length_take, List.length_drop]; omega)) _ inWordB en_lex_inWord lex_inWord _) fun a w hK hM => ?_
   refine sM hK 15 0 (by kernel_rfl) (.inl rfl) rfl fun a hK => ?_
   refine sP hK 16 (.int .i64 ((l.length : Nat) : Int)) (by kernel_rfl) (by kernel_rfl) fun a hK => ?_
   by_cases h4 : ((((runL inWordB l) : Nat) : Int) : Int) < ((l.length : Nat) : Int)
   ·refine sP hK 17 (.bool true) (by kernel_rfl) (oB (b := (decide (((((runL inWordB l) : Nat) : Int) : Int) < ((l.length : Nat) : Int)))) (by kernel_rfl) (decide_eq_true h4)) fun a hK => ?_
    refine sP hK 18 (.bool true) (by kernel_rfl) (by kernel_rfl) fun a hK => ?_
    refine rdo hK [(18, .bool true), (3, .bool false), (2, .int .i64 0), (0, Str l)] ⟨rfl, rfl, rfl, rfl, trivial⟩ fun a hK => ?_
    refine wp_cond_true (hK.get rfl) ?_
    refine wp_seq ?_
    refine rg2 (by kernel_rfl) ?_
    refine sP hK 2 (.int .i64 0) (by kernel_rfl) (by kernel_rfl) fun a hK => ?_
    refine sP hK 3 (.bool false) (by kernel_rfl) (by kernel_rfl) fun a hK => ?_
    refine rdo hK [(3, .bool false), (2, .int .i64 0), (18, .bool true), (0, Str l)] ⟨rfl, rfl, rfl, rfl, trivial⟩ fun a hK => ?_
    refine wp_ret ?_
    exact ret_tt hK rfl (u := (.int .i64 0)) (v := (.bool false)) rfl rfl (⟨by rw [wordV_no2 hc2 (by omega)], hM.below⟩)
   ·refine sP hK 17 (.bool false) (by kernel_rfl) (oB (b := (decide (((((runL inWordB l) : Nat) : Int) : Int) < ((l.length : Nat) : Int)))) (by kernel_rfl) (decide_eq_false h4)) fun a hK => ?_
    refine sP hK 18 (.bool false) (by kernel_rfl) (by kernel_rfl) fun a hK => ?_
    refine rdo hK [(18, .bool false), (3, .bool false), (2, .int .i64 0), (0, Str l)] ⟨rfl, rfl, rfl, rfl, trivial⟩ fun a hK => ?_
    refine wp_cond_false (hK.get rfl) ?_
    refine wp_skip ?_
    refine wp_seq ?_
    refine rg5 (by kernel_rfl) ?_
    refine sM hK 19 0 (by kernel_rfl) (.inl rfl) rfl fun a hK => ?_
    refine sC hK hM 20 #[] (by kernel_rfl) (rC en_lex_keywords rfl rfl (by kernel_rfl)) (lex_keywords _) ?_
    rintro b5 a w - hK hM
    refine sR hK hM 21 #[Str l, .map (some b5)] (.int .i64 (((kindOf l) : Nat) : Int)) (by kernel_rfl) (rC en_lex_wordKind rfl rfl (by kernel_rfl)) (lex_wordKind l _ _ (hM.objlt 0 rfl) (hM.obj 0 rfl)) fun a w hK hM => ?_
    refine sM hK 2 21 (by kernel_rfl) (.inr rfl) rfl fun a hK => ?_
    refine sP hK 3 (.bool true) (by kernel_rfl) (by kernel_rfl) fun a hK => ?_
    refine rdo hK [(3, .bool true), (2, .int .i64 (((kindOf l) : Nat) : Int)), (18, .bool false), (0, Str l)] ⟨rfl, rfl, rfl, rfl, trivial⟩ fun a hK => ?_
    refine wp_ret ?_
    exact ret_tt hK rfl (u := (.int .i64 (((kindOf l) : Nat) : Int))) (v := (.bool true)) rfl rfl (⟨by rw [wordV_yes hc2 h3 (by omega)], hM.below⟩)
  ·refine sR hK hM 9 #[.int .u8 ((c2.toNat : Nat) : Int)] (.bool false) (by kernel_rfl) (rC en_lex_isLetter rfl rfl (by kernel_rfl)) (ret_eq (lex_isLetter c2 _) (congrArg Value.bool h3)) fun a w hK hM => ?_
   refine sP hK 10 (.bool true) (by kernel_rfl) (by kernel_rfl) fun a hK => ?_
   refine sP hK 11 (.bool true) (by kernel_rfl) (by kernel_rfl) fun a hK => ?_
   refine sM hK 12 11 (by kernel_rfl) (.inl rfl) rfl fun a hK => ?_
   refine sN hK 13 (by kernel_rfl) fun a hK => ?_
   refine sN hK 14 (by kernel_rfl) fun a hK => ?_
   refine sN hK 15 (by kernel_rfl) fun a hK => ?_
   refine sN hK 16 (by kernel_rfl) fun a hK => ?_
   refine sN hK 17 (by kernel_rfl) fun a hK => ?_
   refine sP hK 18 (.bool true) (by kernel_rfl) (by kernel_rfl) fun a hK => ?_
   refine rdo hK [(18, .bool true), (3, .bool false), (2, .int .i64 0), (0, Str l)] ⟨rfl, rfl, rfl, rfl, trivial⟩ fun a hK => ?_
   refine wp_cond_true (hK.get rfl) ?_
   refine wp_seq ?_
   refine rg2 (by kernel_rfl) ?_
   refine sP hK 2 (.int .i64 0) (by kernel_rfl) (by kernel_rfl) fun a hK => ?_
   refine sP hK 3 (.bool false) (by kernel_rfl) (by kernel_rfl) fun a hK => ?_
   refine rdo hK [(3, .bool false), (2, .int .i64 0), (18, .bool true), (0, Str l)] ⟨rfl, rfl, rfl, rfl, trivial⟩ fun a hK => ?_
   refine wp_ret ?_
   exact ret_tt hK rfl (u := (.int .i64 0)) (v := (.bool false)) rfl rfl (⟨by rw [wordV_no1 hc2 h3], hM.below⟩)
theorem en_lex_Word : Enters Tryz.prog 84 := enters_of Tryz.func84 (by kernel_rfl) rfl
theorem wordV_eq (l : List UInt8) : wordV l = .tuple #[.int .i64 (((wordOf l).1 : Nat) : Int), .bool (wordOf l).2] := by
 cases l with
 | nil => rfl
 | cons c r =>
  have h : (isLetter c && (c :: r).all wordB) = !((List.range (c :: r).length).any (fun i => badAt i ((c :: r).getD i 0)) || (c :: r).isEmpty) := by
   rw [List.isEmpty_cons, Bool.or_false, Bool.eq_iff_iff]
   constructor
   ·intro h
    rw [Bool.and_eq_true, List.all_eq_true] at h
    rw [Bool.not_eq_true', List.any_eq_false]
    intro i hi
    have hlt : i < (c :: r).length := by simpa using hi
    have hm := h.2 ((c :: r)[i]) (List.getElem_mem hlt)
    rw [show (c :: r).getD i 0 = (c :: r)[i] by rw [List.getD_eq_getElem?_getD, List.getElem?_eq_getElem hlt]; rfl]
    unfold badAt
    cases i with
    | zero => rw [show ((c :: r)[0]'hlt) = c from rfl, h.1]; simp
    | succ i =>
     unfold wordB at hm
     simp only [Bool.or_eq_true] at hm
     generalize (c :: r)[i + 1] = x at hm
     rcases hm with hm | hm | hm
     ·simp [hm]
     ·simp [hm]; intros; omega
     ·simp at hm; simp [hm]; intros; omega
   ·intro h
    rw [Bool.not_eq_true', List.any_eq_false] at h
    rw [Bool.and_eq_true, List.all_eq_true]
    have h0 := h 0 (by simp)
    unfold badAt at h0
    refine ⟨by simpa using h0, fun d hd => ?_⟩
    obtain ⟨i, hi, rfl⟩ := List.getElem_of_mem hd
    have hb := h i (by simpa using hi)
    rw [show (c :: r).getD i 0 = (c :: r)[i] by rw [List.getD_eq_getElem?_getD, List.getElem?_eq_getElem hi]; rfl] at hb
    unfold badAt at hb
    unfold wordB
    cases hl : isLetter (c :: r)[i] with
    | true => rfl
    | false =>
     rw [hl] at hb
     simp at hb ⊢
     cases hd2 : isDigit (c :: r)[i] with
     | true => exact .inl rfl
     | false => exact .inr (hb.2 hd2)
  unfold wordV wordOf
  simp only
  rw [h]
  cases ((List.range (c :: r).length).any (fun i => badAt i ((c :: r).getD i 0)) || (c :: r).isEmpty) with
  | true => rfl
  | false => rfl
end Go.Proofs.YtiigncmpbkfhmaaGreatDoor
namespace Go.Proofs.YtiigncmpbkfhmaaGreatDoor
open Go Go.RowKit
theorem run_neB {o : Oper} {ρ : Operand → Value} {w : World} {x y : Operand} {b c : Bool} {u : TypeId} (hop : o.op = .binOp .neq 4 x y u) (hx : ρ x = .bool b) (hy : ρ y = .bool c) : (execOp ρ o).run Tryz.prog w = .ok (.value (.bool (b != c))) w := by
  have h : (binOp .neq 4 (.bool b) (.bool c)).run Tryz.prog w = .ok (.bool (b != c)) w := by cases b <;> cases c <;> kernel_rfl
  have g : (eqGuard .neq 4 x y (.bool b) (.bool c)).run Tryz.prog w = .ok () w := by first | kernel_rfl | simp [go_sem] | (cases b <;> cases c <;> kernel_rfl)
  simp [execOp, hop, hx, hy, g, h, Result.andThen]
def isWd (l : List UInt8) : Bool := (wordOf l).2 && decide ((((wordOf l).1 : Nat) : Int) = 1)
def exBad (e : Ex) : Bool := !(decide ((kidsI e.op : Int) = ((e.ks.length : Nat) : Int))) || (decide ((e.op : Int) = 2) != isWd e.nm) || (!(decide ((e.op : Int) = 2)) && !(decide (e.nm = []))) || decide ((e.num : Int) < 0) || (!(decide ((e.op : Int) = 1)) && !(decide ((e.num : Int) = 0)))
mutual
def Ex.ok : Ex → Bool
  | .mk o n m A c ks => !(exBad (.mk o n m A c ks)) && exsOk ks
def exsOk : List Ex → Bool
  | [] => true
  | x :: r => x.ok && exsOk r
end
theorem ex_ok (e : Ex) : e.ok = (!(exBad e) && exsOk e.ks) := by cases e; rw [Ex.ok]; rfl
def ptIs (k : Int) : Bool := decide ((1 : Int) ≤ k) && decide (k ≤ 11)
def ptNm (k : Int) : Bool := k == 1 || k == 2 || k == 4 || k == 5 || k == 6
def ptLc (k : Int) : Bool := k == 2 || k == 3 || k == 4 || k == 5 || k == 6
def ptOr (k : Int) : Bool := k == 2 || k == 3 || k == 4 || k == 5 || k == 6 || k == 7
def ptEx (k : Int) : Int := if k = 4 then 2 else if k = 2 ∨ k = 7 then 0 else if 1 ≤ k ∧ k ≤ 11 then 1 else 0
def ptTh (k : Int) : Bool := k == 10 || k == 11
def ptEl (k : Int) : Bool := k == 10
def smBad1 (s : Sm) : Bool := !(ptIs s.kind) || (ptNm s.kind != isWd s.nm) || (!(ptNm s.kind) && !(decide (s.nm = []))) || (ptLc s.kind != isWd s.loc) || (!(ptLc s.kind) && !(decide (s.loc = []))) || !(decide ((((s.es.length : Nat) : Int) : Int) = ptEx s.kind)) || (!(ptTh s.kind) && decide ((0 : Int) < ((s.th.length : Nat) : Int))) || (!(ptEl s.kind) && decide ((0 : Int) < ((s.el.length : Nat) : Int)))
def smBad2 (s : Sm) : Bool := (ptOr s.kind && (decide ((s.ord : Int) < 1) || decide ((6 : Int) < s.ord))) || (!(ptOr s.kind) && !(decide ((s.ord : Int) = 0)))
mutual
def Sm.ok : Sm → Bool
  | .mk k n l o A1 c1 es A2 c2 th A3 c3 el => !(smBad1 (.mk k n l o A1 c1 es A2 c2 th A3 c3 el)) && !(smBad2 (.mk k n l o A1 c1 es A2 c2 th A3 c3 el)) && smsOk th && smsOk el && exsOk es
def smsOk : List Sm → Bool
  | [] => true
  | x :: r => x.ok && smsOk r
end
theorem sm_ok (s : Sm) : s.ok = (!(smBad1 s) && !(smBad2 s) && smsOk s.th && smsOk s.el && exsOk s.es) := by cases s; rw [Sm.ok]; rfl
def dcOk (d : Dc) : Bool := isWd d.nm && !(decide ((d.val : Int) < 0))
def dcsOk (l : List Dc) : Bool := l.all dcOk
def thsOk (l : List Th) : Bool := l.all fun t => smsOk t.l
theorem dcsOk_step {ks : List Dc} {i : Nat} {x : Dc} (h : ks[i]? = some x) : dcsOk (ks.drop i) = (dcOk x && dcsOk (ks.drop (i + 1))) := by
  obtain ⟨hi, rfl⟩ := List.getElem?_eq_some_iff.1 h
  rw [List.drop_eq_getElem_cons hi]; rfl
theorem dcsOk_end {ks : List Dc} {i : Nat} (h : ks.length ≤ i) : dcsOk (ks.drop i) = true := by rw [List.drop_of_length_le h]; rfl
def chkP (p : Pg) : Int := if (decide ((2000 : Int) < ((thsSz p.ts : Nat) : Int)) || decide ((32 : Int) < ((thsDp p.ts : Nat) : Int))) = true then 3 else if dcsOk p.ds = true then (if thsOk p.ts = true then 0 else 2) else 2
def chkE (e : Ex) : Int := if (decide ((2000 : Int) < ((e.sz : Nat) : Int)) || decide ((32 : Int) < ((e.dp : Nat) : Int))) = true then 3 else if e.ok = true then 0 else 2
end Go.Proofs.YtiigncmpbkfhmaaGreatDoor
namespace Go.Proofs.YtiigncmpbkfhmaaGreatDoor
open Go Go.RowKit
def sizeD (_d : Nat) (n : Nat) : Bool × Nat := (true, n + 1)
def deepD (d : Nat) (n : Nat) : Bool × Nat := (true, max n d)
def limD (d : Nat) (n : Nat) : Bool × Nat := (decide ((((n + 1 : Nat) : Int) : Int) ≤ 2000) && decide ((((d : Nat) : Int) : Int) ≤ 32), n + 1)
def mayE (e : Ex) (_d : Nat) (_u : Unit) : Bool × Unit := (!(exBad e), ())
def mayS (s : Sm) (_d : Nat) (_u : Unit) : Bool × Unit := (!(smBad1 s) && !(smBad2 s), ())
def okN (k n : Nat) : Prop := n + k ≤ 1000000
def okU {σ : Type} (_k : Nat) (_n : σ) : Prop := True
theorem size_ex (e : Ex) : ∀ d n, e.wk (fun _ => sizeD) d n = (true, n + e.sz) := by
  induction e using Ex.rec_on with
  | h e ih =>
    intro d n
    rw [ex_wk, sz_eq]
    show andW (true, n + 1) _ = _
    rw [andW_t]
    have key : ∀ (l : List Ex) (d n : Nat), (∀ x ∈ l, ∀ d n, x.wk (fun _ => sizeD) d n = (true, n + x.sz)) → exsWk (fun _ => sizeD) l d n = (true, n + exsSz l) := by
      intro l
      induction l with
      | nil => intro d n _; rw [exsWk, exsSz]; rfl
      | cons x r ih2 =>
        intro d n hx
        rw [exsWk, hx x List.mem_cons_self, andW_t, ih2 _ _ (fun y hy => hx y (List.mem_cons_of_mem _ hy)), exsSz, Nat.add_assoc]
    rw [key e.ks _ _ ih, show n + 1 + exsSz e.ks = n + (exsSz e.ks + 1) by omega]
theorem size_exs (l : List Ex) (d n : Nat) : exsWk (fun _ => sizeD) l d n = (true, n + exsSz l) := by
  induction l generalizing n with
  | nil => rw [exsWk, exsSz]; rfl
  | cons x r ih => rw [exsWk, size_ex, andW_t, ih, exsSz, Nat.add_assoc]
theorem size_sms (l : List Sm) : ∀ d n, smsWk (fun _ => sizeD) (fun _ => sizeD) l d n = (true, n + smsSz l) := by
  induction l using sms_rec with
  | h l ih =>
    induction l with
    | nil => intro d n; rw [smsWk, smsSz]; rfl
    | cons y r ih2 =>
      intro d n
      obtain ⟨h1, h2⟩ := ih y List.mem_cons_self
      rw [smsWk, sm_wk]
      show andW (andW (true, n + 1) _) _ = _
      rw [andW_t, walkW_go (size_exs _ _ _), h1, andW_t, h2, andW_t, ih2 (fun s hs => ih s (List.mem_cons_of_mem _ hs)), smsSz, sm_sz]
      exact congrArg (Prod.mk true) (by omega)
theorem size_ths (l : List Th) (n : Nat) : thsWk (fun _ => sizeD) (fun _ => sizeD) l n = (true, n + thsSz l) := by
  induction l generalizing n with
  | nil => rw [thsWk]; rfl
  | cons t r ih =>
    rw [thsWk, size_sms, andW_t, ih]
    have h2 : thsSz (t :: r) = smsSz t.l + thsSz r := by unfold thsSz; simp
    rw [h2, Nat.add_assoc]
theorem deep_ex (e : Ex) : ∀ d n, d ≤ n + 1 → 1 ≤ d → e.wk (fun _ => deepD) d n = (true, max n (d - 1 + e.dp)) := by
  induction e using Ex.rec_on with
  | h e ih =>
    intro d n hd hd1
    rw [ex_wk, dp_eq]
    show andW (true, max n d) _ = _
    rw [andW_t]
    have key : ∀ (l : List Ex) (d n : Nat), (∀ x ∈ l, ∀ d n, d ≤ n + 1 → 1 ≤ d → x.wk (fun _ => deepD) d n = (true, max n (d - 1 + x.dp))) → d ≤ n + 1 → 1 ≤ d → exsWk (fun _ => deepD) l d n = (true, max n (d - 1 + exsDp l)) := by
      intro l
      induction l with
      | nil => intro d n _ h1 h2; rw [exsWk, exsDp]; exact congrArg (Prod.mk true) (by omega)
      | cons x r ih2 =>
        intro d n hx h1 h2
        rw [exsWk, hx x List.mem_cons_self _ _ h1 h2, andW_t, ih2 _ _ (fun y hy => hx y (List.mem_cons_of_mem _ hy)) (by omega) h2, exsDp]
        exact congrArg (Prod.mk true) (by omega)
    rw [key e.ks _ _ ih (by omega) (by omega)]
    exact congrArg (Prod.mk true) (by omega)
theorem deep_exs (l : List Ex) (d n : Nat) (h1 : d ≤ n + 1) (h2 : 1 ≤ d) : exsWk (fun _ => deepD) l d n = (true, max n (d - 1 + exsDp l)) := by
  induction l generalizing n with
  | nil => rw [exsWk, exsDp]; exact congrArg (Prod.mk true) (by omega)
  | cons x r ih => rw [exsWk, deep_ex x _ _ h1 h2, andW_t, ih _ (by omega), exsDp]; exact congrArg (Prod.mk true) (by omega)
theorem deep_sms (l : List Sm) : ∀ d n, d ≤ n + 1 → 1 ≤ d → smsWk (fun _ => deepD) (fun _ => deepD) l d n = (true, max n (d - 1 + smsDp l)) := by
  induction l using sms_rec with
  | h l ih =>
    induction l with
    | nil => intro d n h1 h2; rw [smsWk, smsDp]; exact congrArg (Prod.mk true) (by omega)
    | cons y r ih2 =>
      intro d n hd hd1
      obtain ⟨h1, h2⟩ := ih y List.mem_cons_self
      rw [smsWk, sm_wk]
      show andW (andW (true, max n d) _) _ = _
      rw [andW_t, walkW_go (deep_exs _ _ _ (by omega) (by omega)), h1 _ _ (by omega) (by omega), andW_t, h2 _ _ (by omega) (by omega), andW_t, ih2 (fun s hs => ih s (List.mem_cons_of_mem _ hs)) _ _ (by omega) hd1, smsDp, sm_dp]
      exact congrArg (Prod.mk true) (by omega)
theorem deep_ths (l : List Th) (n : Nat) : thsWk (fun _ => deepD) (fun _ => deepD) l n = (true, max n (thsDp l)) := by
  induction l generalizing n with
  | nil => rw [thsWk, thsDp, Nat.max_zero]
  | cons t r ih => rw [thsWk, deep_sms _ _ _ (by omega) (by omega), andW_t, ih, thsDp]; exact congrArg (Prod.mk true) (by omega)
def inLim (r : Bool × Nat) (sz dp d n : Nat) : Prop := (r.1 = true ↔ n + sz ≤ 2000 ∧ d + dp ≤ 33) ∧ (r.1 = true → r.2 = n + sz)
theorem inLim_seq {r : Bool × Nat} {k : Nat → Bool × Nat} {z1 p1 z2 p2 d n : Nat} (h1 : inLim r z1 p1 d n) (h2 : n + z1 ≤ 2000 → inLim (k (n + z1)) z2 p2 d (n + z1)) : inLim (andW r k) (z1 + z2) (max p1 p2) d n := by
  obtain ⟨b, s⟩ := r
  obtain ⟨h3, h4⟩ := h1
  cases b with
  | false =>
    rw [andW_f]
    refine ⟨⟨fun h => (by cases h), fun h => ?_⟩, fun h => (by cases h)⟩
    exact h3.2 ⟨by omega, by omega⟩
  | true =>
    have e : s = n + z1 := h4 rfl
    have g := h3.1 rfl
    subst e
    rw [andW_t]
    obtain ⟨h5, h6⟩ := h2 g.1
    exact ⟨⟨fun h => by have := h5.1 h; omega, fun h => h5.2 (by omega)⟩, fun h => by rw [h6 h]; omega⟩
theorem inLim_nil {d n : Nat} (h1 : n ≤ 2000) (h2 : d ≤ 33) : inLim (true, n) 0 0 d n := ⟨⟨fun _ => ⟨by omega, by omega⟩, fun _ => rfl⟩, fun _ => rfl⟩
theorem inLim_node {k : Nat → Bool × Nat} {z p d n : Nat} (h : n + 1 ≤ 2000 → d + 1 ≤ 33 → inLim (k (n + 1)) z p (d + 1) (n + 1)) : inLim (andW (limD d n) k) (z + 1) (p + 1) d n := by
  unfold limD
  by_cases hn : n + 1 ≤ 2000
  · by_cases hd : d ≤ 32
    · rw [decide_eq_true (show ((n + 1 : Nat) : Int) ≤ 2000 by omega), decide_eq_true (show ((d : Nat) : Int) ≤ 32 by omega)]
      show inLim (andW (true, n + 1) k) _ _ _ _
      rw [andW_t]
      obtain ⟨h5, h6⟩ := h hn (by omega)
      exact ⟨⟨fun h => by have := h5.1 h; omega, fun h => h5.2 (by omega)⟩, fun h => by rw [h6 h]; omega⟩
    · rw [decide_eq_false (show ¬ ((d : Nat) : Int) ≤ 32 by omega), Bool.and_false]
      rw [andW_f]
      exact ⟨⟨fun h => (by cases h), fun h => (by omega)⟩, fun h => (by cases h)⟩
  · rw [decide_eq_false (show ¬ ((n + 1 : Nat) : Int) ≤ 2000 by omega), Bool.false_and]
    rw [andW_f]
    exact ⟨⟨fun h => (by cases h), fun h => (by omega)⟩, fun h => (by cases h)⟩
theorem lim_exs_of (l : List Ex) (h : ∀ x ∈ l, ∀ d n, inLim (x.wk (fun _ => limD) d n) x.sz x.dp d n) (d n : Nat) (hn : n ≤ 2000) (hd : d ≤ 33) : inLim (exsWk (fun _ => limD) l d n) (exsSz l) (exsDp l) d n := by
  induction l generalizing n with
  | nil => rw [exsWk, exsSz, exsDp]; exact inLim_nil hn hd
  | cons x r ih =>
    rw [exsWk, exsSz, exsDp]
    exact inLim_seq (h x List.mem_cons_self d n) fun h2 => ih (fun y hy => h y (List.mem_cons_of_mem _ hy)) _ h2
theorem lim_ex (e : Ex) : ∀ d n, inLim (e.wk (fun _ => limD) d n) e.sz e.dp d n := by
  induction e using Ex.rec_on with
  | h e ih =>
    intro d n
    rw [ex_wk, sz_eq, dp_eq]
    exact inLim_node fun h1 h2 => lim_exs_of e.ks ih _ _ h1 h2
theorem lim_exs (l : List Ex) (d n : Nat) (hn : n ≤ 2000) (hd : d ≤ 33) : inLim (exsWk (fun _ => limD) l d n) (exsSz l) (exsDp l) d n := lim_exs_of l (fun x _ => lim_ex x) d n hn hd
theorem lim_sms (l : List Sm) : ∀ d n, n ≤ 2000 → d ≤ 33 → inLim (smsWk (fun _ => limD) (fun _ => limD) l d n) (smsSz l) (smsDp l) d n := by
  induction l using sms_rec with
  | h l ih =>
    induction l with
    | nil => intro d n hn hd; rw [smsWk, smsSz, smsDp]; exact inLim_nil hn hd
    | cons y r ih2 =>
      intro d n hn hd
      obtain ⟨h1, h2⟩ := ih y List.mem_cons_self
      rw [smsWk, smsSz, smsDp]
      refine inLim_seq ?_ fun h3 => ih2 (fun s hs => ih s (List.mem_cons_of_mem _ hs)) _ _ h3 hd
      rw [sm_wk, sm_sz, sm_dp]
      rw [show max (max (smsDp y.th) (smsDp y.el)) (exsDp y.es) = max (max (exsDp y.es) (smsDp y.th)) (smsDp y.el) by omega]
      refine inLim_node fun h4 h5 => ?_
      refine inLim_seq ?_ fun h6 => h2 _ _ h6 h5
      unfold walkW
      exact inLim_seq (lim_exs _ _ _ h4 h5) fun h6 => h1 _ _ h6 h5
theorem lim_ths (l : List Th) : ∀ n, n ≤ 2000 → inLim (thsWk (fun _ => limD) (fun _ => limD) l n) (thsSz l) (thsDp l) 1 n := by
  induction l with
  | nil => intro n hn; rw [thsWk, thsDp]; exact inLim_nil hn (by omega)
  | cons t r ih =>
    intro n hn
    have h2 : thsSz (t :: r) = smsSz t.l + thsSz r := by unfold thsSz; simp
    rw [thsWk, h2, thsDp]
    exact inLim_seq (lim_sms _ _ _ hn (by omega)) fun h3 => ih _ h3
theorem may_exs_of (l : List Ex) (h : ∀ x ∈ l, ∀ d u, x.wk mayE d u = (x.ok, ())) (d : Nat) (u : Unit) : exsWk mayE l d u = (exsOk l, ()) := by
  induction l generalizing u with
  | nil => rw [exsWk, exsOk]
  | cons x r ih =>
    rw [exsWk, h x List.mem_cons_self, exsOk]
    cases x.ok with
    | false => rfl
    | true => rw [andW_t, ih (fun y hy => h y (List.mem_cons_of_mem _ hy))]; rfl
theorem may_ex (e : Ex) : ∀ d u, e.wk mayE d u = (e.ok, ()) := by
  induction e using Ex.rec_on with
  | h e ih =>
    intro d u
    rw [ex_wk, ex_ok]
    unfold mayE
    cases exBad e with
    | true => rfl
    | false => exact may_exs_of e.ks ih _ _
theorem may_exs (l : List Ex) (d : Nat) (u : Unit) : exsWk mayE l d u = (exsOk l, ()) := may_exs_of l (fun x _ => may_ex x) d u
theorem may_sms (l : List Sm) : ∀ d u, smsWk mayE mayS l d u = (smsOk l, ()) := by
  induction l using sms_rec with
  | h l ih =>
    induction l with
    | nil => intro d u; rw [smsWk, smsOk]
    | cons y r ih2 =>
      intro d u
      obtain ⟨h1, h2⟩ := ih y List.mem_cons_self
      have hr := fun d u => ih2 (fun s hs => ih s (List.mem_cons_of_mem _ hs)) d u
      rw [smsWk, smsOk, sm_wk, sm_ok]
      have hy : mayS y d u = (!(smBad1 y) && !(smBad2 y), ()) := rfl
      rw [hy]
      cases h3 : (!(smBad1 y) && !(smBad2 y)) with
      | false => rfl
      | true =>
        rw [andW_t]
        unfold walkW
        rw [may_exs]
        cases exsOk y.es with
        | false => simp [andW]
        | true =>
          rw [andW_t, h1]
          cases smsOk y.th with
          | false => rfl
          | true =>
            rw [andW_t, h2]
            cases smsOk y.el with
            | false => rfl
            | true => rw [andW_t, hr]; rfl
theorem may_ths (l : List Th) (u : Unit) : thsWk mayE mayS l u = (thsOk l, ()) := by
  induction l generalizing u with
  | nil => rw [thsWk]; rfl
  | cons t r ih =>
    rw [thsWk, may_sms]
    have h : thsOk (t :: r) = (smsOk t.l && thsOk r) := rfl
    rw [h]
    cases smsOk t.l with
    | false => rfl
    | true => rw [andW_t, ih]; rfl
structure StepD {σ : Type} (w0 : World) (G : σ → List It) (ok : Nat → σ → Prop) (h : Nat → σ → Bool × σ) (fd : FuncId) (cd : Array Value) : Prop where
  enters : Enters Tryz.prog fd
  call : ∀ (d k : Nat) (s : σ) (F : List It) (w : World), Mem w0 w (G s ++ F) → d ≤ 1000000 → ok (k + 1) s → Calls Tryz.prog fd (#[vN d] ++ cd) w (Gives w0 (fun r : Bool × σ => .bool r.1) (fun r => G r.2 ++ F) fun r => r = h d s)
  ok : ∀ (d k : Nat) (s : σ), ok (k + 1) s → (h d s).1 = true → ok k (h d s).2
end Go.Proofs.YtiigncmpbkfhmaaGreatDoor
namespace Go.Proofs.YtiigncmpbkfhmaaGreatDoor
open Go Go.RowKit
def exN (k : Int) : Bool := decide (k = 1)
def exR (k : Int) : Bool := decide (k = 2)
def tabE : List Value := (List.range 17).flatMap fun k : Nat => [.bool (exN (k : Int)), .bool (exR (k : Int)), .int .i64 (if k = 0 then 0 else kidsI (k : Int))]
def tabS : List Value := (List.range 12).flatMap fun k : Nat => [.bool (ptNm (k : Int)), .bool (ptLc (k : Int)), .bool (ptOr (k : Int)), .int .i64 (ptEx (k : Int)), .bool (ptTh (k : Int)), .bool (ptEl (k : Int))]
structure TabOk (w : World) : Prop where
  e : CellsAt w ⟨0, 0, none⟩ tabE
  s : CellsAt w ⟨1, 0, none⟩ tabS
theorem TabOk.on {w w' : World} (h : TabOk w) (hb : Below w.heap.size w w') : TabOk w' := ⟨h.e.on hb, h.s.on hb⟩
theorem TabOk.exprs {w : World} (h : TabOk w) {op : Int} (h1 : 1 ≤ op) (h2 : op ≤ 16) : CellsAt w ((⟨0, 0, none⟩ : Addr).add (op.toNat * 3)) [.bool (exN op), .bool (exR op), .int .i64 (kidsI op)] := by
  obtain ⟨k, rfl⟩ : ∃ k : Nat, op = k := ⟨op.toNat, by omega⟩
  have hk : k = 1 ∨ k = 2 ∨ k = 3 ∨ k = 4 ∨ k = 5 ∨ k = 6 ∨ k = 7 ∨ k = 8 ∨ k = 9 ∨ k = 10 ∨ k = 11 ∨ k = 12 ∨ k = 13 ∨ k = 14 ∨ k = 15 ∨ k = 16 := by omega
  rcases hk with rfl | rfl | rfl | rfl | rfl | rfl | rfl | rfl | rfl | rfl | rfl | rfl | rfl | rfl | rfl | rfl
  · exact h.e.addA 3 3 (by decide)
  · exact h.e.addA 6 3 (by decide)
  · exact h.e.addA 9 3 (by decide)
  · exact h.e.addA 12 3 (by decide)
  · exact h.e.addA 15 3 (by decide)
  · exact h.e.addA 18 3 (by decide)
  · exact h.e.addA 21 3 (by decide)
  · exact h.e.addA 24 3 (by decide)
  · exact h.e.addA 27 3 (by decide)
  · exact h.e.addA 30 3 (by decide)
  · exact h.e.addA 33 3 (by decide)
  · exact h.e.addA 36 3 (by decide)
  · exact h.e.addA 39 3 (by decide)
  · exact h.e.addA 42 3 (by decide)
  · exact h.e.addA 45 3 (by decide)
  · exact h.e.addA 48 3 (by decide)
theorem TabOk.stmts {w : World} (h : TabOk w) {k : Int} (hk : ptIs k = true) : CellsAt w ((⟨1, 0, none⟩ : Addr).add (k.toNat * 6)) [.bool (ptNm k), .bool (ptLc k), .bool (ptOr k), .int .i64 (ptEx k), .bool (ptTh k), .bool (ptEl k)] := by
  unfold ptIs at hk
  rw [Bool.and_eq_true, decide_eq_true_iff, decide_eq_true_iff] at hk
  obtain ⟨k, rfl⟩ : ∃ j : Nat, k = j := ⟨k.toNat, by omega⟩
  have hk : k = 1 ∨ k = 2 ∨ k = 3 ∨ k = 4 ∨ k = 5 ∨ k = 6 ∨ k = 7 ∨ k = 8 ∨ k = 9 ∨ k = 10 ∨ k = 11 := by omega
  rcases hk with rfl | rfl | rfl | rfl | rfl | rfl | rfl | rfl | rfl | rfl | rfl
  · exact h.s.addA 6 6 (by decide)
  · exact h.s.addA 12 6 (by decide)
  · exact h.s.addA 18 6 (by decide)
  · exact h.s.addA 24 6 (by decide)
  · exact h.s.addA 30 6 (by decide)
  · exact h.s.addA 36 6 (by decide)
  · exact h.s.addA 42 6 (by decide)
  · exact h.s.addA 48 6 (by decide)
  · exact h.s.addA 54 6 (by decide)
  · exact h.s.addA 60 6 (by decide)
  · exact h.s.addA 66 6 (by decide)
theorem run_ixArr {P : Program} {o : Oper} {ρ : Operand → Value} {w : World} {t e : TypeId} {x y : Operand} {a : Addr} {n k s : Nat} {i : Int} (hop : o.op = .indexAddr t x y) (hx : ρ x = .pointer (some a)) (hy : ρ y = .int .i64 i) (hi : i = ((k : Nat) : Int)) (ht : P.underlying t = some (.array n e)) (hs : (P.info? e).map (·.size) = some s) (hk : k < n) : (execOp ρ o).run P w = .ok (.value (.pointer (some (a.add (k * s))))) w := by
  subst hi
  obtain ⟨j, hj, hs⟩ := Option.map_eq_some_iff.1 hs
  simp [execOp, hop, hx, hy, Instr.indexAt, Instr.sureAddr, asIntOf, run_underlying ht, sizeOf, typeInfo, hj, hs, hk]
def numOk (n : Int) (b : Bool) : Bool := if b = true then decide ((0 : Int) ≤ n) else decide ((n : Int) = 0)
def nameOk (l : List UInt8) (b : Bool) : Bool := if b = true then isWd l else decide (l = [])
def ordOk (o : Int) (b : Bool) : Bool := if b = true then (decide ((1 : Int) ≤ o) && decide (o ≤ 6)) else decide ((o : Int) = 0)
theorem isWd_nil : isWd [] = false := by decide
theorem name_bad (l : List UInt8) (b : Bool) : ((b != isWd l) || (!b && !(decide (l = [])))) = !(nameOk l b) := by
  unfold nameOk
  cases b with
  | true => cases isWd l <;> rfl
  | false =>
    by_cases h : l = []
    · subst h; rw [isWd_nil]; rfl
    · rw [decide_eq_false h]; cases isWd l <;> rfl
theorem num_bad (e : Ex) : (decide ((e.num : Int) < 0) || (!(decide ((e.op : Int) = 1)) && !(decide ((e.num : Int) = 0)))) = !(numOk e.num (exN e.op)) := by
  unfold numOk exN
  by_cases h : e.op = 1
  · rw [decide_eq_true h, if_pos rfl]
    by_cases h2 : e.num < 0
    · rw [decide_eq_true h2, decide_eq_false (show ¬ 0 ≤ e.num by omega)]; rfl
    · rw [decide_eq_false h2, decide_eq_true (show 0 ≤ e.num by omega)]; rfl
  · rw [decide_eq_false h, if_neg (by decide)]
    by_cases h2 : e.num = 0
    · rw [decide_eq_true h2, decide_eq_false (show ¬ e.num < 0 by omega)]; rfl
    · rw [decide_eq_false h2]; cases decide (e.num < 0) <;> rfl
theorem ord_bad (s : Sm) : smBad2 s = !(ordOk s.ord (ptOr s.kind)) := by
  unfold smBad2 ordOk
  cases ptOr s.kind with
  | false => rw [if_neg (by decide)]; cases decide (s.ord = 0) <;> rfl
  | true =>
    rw [if_pos rfl]
    by_cases h : s.ord < 1
    · rw [decide_eq_true h, decide_eq_false (show ¬ 1 ≤ s.ord by omega)]; rfl
    · by_cases h2 : 6 < s.ord
      · rw [decide_eq_false h, decide_eq_true h2, decide_eq_true (show 1 ≤ s.ord by omega), decide_eq_false (show ¬ s.ord ≤ 6 by omega)]; rfl
      · rw [decide_eq_false h, decide_eq_false h2, decide_eq_true (show 1 ≤ s.ord by omega), decide_eq_true (show s.ord ≤ 6 by omega)]; rfl
theorem ex_out {e : Ex} (h : e.op < 1 ∨ 16 < e.op) : exBad e = true := by
  unfold exBad kidsI
  rw [decide_eq_false (show ¬ e.op = 1 by omega), decide_eq_false (show ¬ e.op = 2 by omega), decide_eq_false (show ¬ e.op = 3 by omega), decide_eq_false (show ¬ e.op = 4 by omega)]
  have h2 : (decide ((5 : Int) ≤ e.op) && decide (e.op ≤ 16)) = false := by
    rcases h with h | h
    · rw [decide_eq_false (show ¬ 5 ≤ e.op by omega)]; rfl
    · rw [decide_eq_false (show ¬ e.op ≤ 16 by omega), Bool.and_false]
  rw [h2]
  have h3 : decide ((-1 : Int) = ((e.ks.length : Nat) : Int)) = false := decide_eq_false (by omega)
  simp only [Bool.or_self, Bool.false_eq_true, if_false, h3]
  rfl
theorem ex_in (e : Ex) : exBad e = !(numOk e.num (exN e.op) && nameOk e.nm (exR e.op) && decide ((((e.ks.length : Nat) : Int) : Int) = kidsI e.op)) := by
  have h1 := num_bad e
  have h2 := name_bad e.nm (exR e.op)
  have h3 : decide ((kidsI e.op : Int) = ((e.ks.length : Nat) : Int)) = decide ((((e.ks.length : Nat) : Int) : Int) = kidsI e.op) := by
    by_cases h : kidsI e.op = ((e.ks.length : Nat) : Int)
    · rw [decide_eq_true h, decide_eq_true h.symm]
    · rw [decide_eq_false h, decide_eq_false fun h' => h h'.symm]
  unfold exBad
  rw [h3]
  unfold exR at *
  revert h1 h2
  generalize decide ((((e.ks.length : Nat) : Int) : Int) = kidsI e.op) = a1
  generalize decide ((e.op : Int) = 2) = a2
  generalize isWd e.nm = a3
  generalize decide (e.nm = []) = a4
  generalize decide ((e.num : Int) < 0) = a5
  generalize decide ((e.op : Int) = 1) = a6
  generalize decide ((e.num : Int) = 0) = a7
  generalize numOk e.num (exN e.op) = a8
  generalize nameOk e.nm a2 = a9
  revert a1 a2 a3 a4 a5 a6 a7 a8 a9
  decide
theorem sm_out {s : Sm} (h : ptIs s.kind = false) : smBad1 s = true := by unfold smBad1; rw [h]; rfl
theorem len_zero (n : Nat) : decide ((0 : Int) < ((n : Nat) : Int)) = !(decide (((n : Nat) : Int) = 0)) := by
  by_cases h : n = 0
  · subst h; rfl
  · rw [decide_eq_true (show (0 : Int) < ((n : Nat) : Int) by omega), decide_eq_false (show ¬ ((n : Nat) : Int) = 0 by omega)]; rfl
theorem sm_in {s : Sm} (h : ptIs s.kind = true) : (!(smBad1 s) && !(smBad2 s)) = (nameOk s.nm (ptNm s.kind) && nameOk s.loc (ptLc s.kind) && ordOk s.ord (ptOr s.kind) && decide ((((s.es.length : Nat) : Int) : Int) = ptEx s.kind) && (ptTh s.kind || decide ((((s.th.length : Nat) : Int) : Int) = 0)) && (ptEl s.kind || decide ((((s.el.length : Nat) : Int) : Int) = 0))) := by
  rw [ord_bad]
  have h1 := name_bad s.nm (ptNm s.kind)
  have h2 := name_bad s.loc (ptLc s.kind)
  unfold smBad1
  rw [h, len_zero, len_zero]
  generalize ordOk s.ord (ptOr s.kind) = a1
  generalize decide ((((s.es.length : Nat) : Int) : Int) = ptEx s.kind) = a2
  generalize ptTh s.kind = a3
  generalize ptEl s.kind = a4
  generalize decide ((((s.th.length : Nat) : Int) : Int) = 0) = a5
  generalize decide ((((s.el.length : Nat) : Int) : Int) = 0) = a6
  generalize nameOk s.nm (ptNm s.kind) = n1 at *
  generalize nameOk s.loc (ptLc s.kind) = n2 at *
  generalize (ptNm s.kind != isWd s.nm) = b1 at *
  generalize (!(ptNm s.kind) && !(decide (s.nm = []))) = b2 at *
  generalize (ptLc s.kind != isWd s.loc) = b3 at *
  generalize (!(ptLc s.kind) && !(decide (s.loc = []))) = b4 at *
  have e1 : n1 = !(b1 || b2) := by rw [h1, Bool.not_not]
  have e2 : n2 = !(b3 || b4) := by rw [h2, Bool.not_not]
  subst e1 e2
  clear h1 h2 h
  cases b1 <;> cases b2 <;> cases b3 <;> cases b4 <;> cases a1 <;> cases a2 <;> cases a3 <;> cases a4 <;> cases a5 <;> cases a6 <;> rfl
theorem lim_chk {l : List Th} {r : Bool} {q : Nat} (h : (r, q) = thsWk (fun _ d s => limD d s) (fun _ d s => limD d s) l 0) : (decide ((2000 : Int) < ((thsSz l : Nat) : Int)) || decide ((32 : Int) < ((thsDp l : Nat) : Int))) = !r := by
  have h1 := (lim_ths l 0 (by omega)).1
  rw [show thsWk (fun _ => limD) (fun _ => limD) l 0 = (r, q) from h.symm] at h1
  cases r with
  | true =>
    have h2 := h1.1 rfl
    rw [decide_eq_false (show ¬ (2000 : Int) < ((thsSz l : Nat) : Int) by omega), decide_eq_false (show ¬ (32 : Int) < ((thsDp l : Nat) : Int) by omega)]; rfl
  | false =>
    have h2 : ¬ (0 + thsSz l ≤ 2000 ∧ 1 + thsDp l ≤ 33) := fun h => by cases h1.2 h
    by_cases h3 : (2000 : Int) < ((thsSz l : Nat) : Int)
    · rw [decide_eq_true h3]; rfl
    · rw [decide_eq_true (show (32 : Int) < ((thsDp l : Nat) : Int) by omega), Bool.or_true]; rfl
end Go.Proofs.YtiigncmpbkfhmaaGreatDoor
namespace Go.Proofs.YtiigncmpbkfhmaaGreatDoor
open Go Go.ChangeShapes Go.WideShapes Go.ChangeAt Go.RowKit Go.Joins
theorem ownGodebug : ownKnob Tryz.prog.godebug = none := by kernel_rfl
theorem laidOut : laidOutB Tryz.prog = true := by kernel_rfl
section
variable {H : Type} {enc : TypeId × Value → H}
theorem trodAll_stays {W W' : World} {sp : Nat → Bool} : ∀ {ts : List TypeId} {vs : List Value} {ds : List (DataW H)} {ps : List MemPlace}, (ts.all fun t => Tryz.prog.readableRec t && decide (t < Tryz.prog.types.size)) = true →
    DataW.TrodAll enc Tryz.prog W 0 (fun _ => true) true ts vs ds ps → (∀ p ∈ ps, W.sameAt W' p) → (∀ p ∈ ps, sp p.block = true) → DataW.TrodAll enc Tryz.prog W' 0 sp true ts vs ds ps := by
  intro ts
  induction ts with
  | nil =>
    intro vs ds ps _ h _ _
    cases vs with
    | nil => cases ds with
      | nil => exact h
      | cons _ _ => exact h.elim
    | cons _ _ => cases ds <;> exact h.elim
  | cons t ts ih =>
    intro vs ds ps hr h hsame hs
    rw [List.all_cons, Bool.and_eq_true, Bool.and_eq_true, decide_eq_true_iff] at hr
    obtain ⟨v, vs', d, ds', p, p', rfl, rfl, rfl, h0, hr'⟩ := trodAll_cons h
    exact trodAll_cons_mk (WideElems.Trod_stays laidOut hr.1.1 hr.1.2 h0 (fun q hq => hsame q (List.mem_append_left _ hq)) (fun q hq => hs q (List.mem_append_left _ hq)))
      (ih hr.2 hr' (fun q hq => hsame q (List.mem_append_right _ hq)) (fun q hq => hs q (List.mem_append_right _ hq)))
theorem same_of_below {W W' : World} {p : MemPlace} (hb : Below W.heap.size W W') (hp : p.block < W.heap.size) : W.sameAt W' p := by
  cases p with
  | cell b off => exact hb.cell (p := ⟨b, off, none⟩) hp
  | map b => exact hb.block b hp
set_option maxRecDepth 100000 in
theorem law_post {f : Func} {s : ChangeSpec} {W W' : World} {args : Array Value} {ds gs : List (DataW H)} {before : List MemPlace} (hs : s.vars = [])
    (hr : (f.params.toList.all fun t => Tryz.prog.readableRec t && decide (t < Tryz.prog.types.size)) = true) (hres : f.resultTypes = #[4])
    (hfn : s.fn H ds = { results := [.lit (.bool true)], args := ds })
    (hW : DataW.Whole enc Tryz.prog f.params.toList s.vars false W args.toList ds gs before) (hb : Below W.heap.size W W') :
    s.post enc Tryz.prog f false true false false W args (.bool true) W' := by
  have hlt : ∀ p ∈ before, p.block < W.heap.size := fun p hp => hW.lt p hp
  have hold : ∀ p ∈ before, (fun b => decide (b < W.heap.size)) p.block = true := fun p hp => by simpa using hlt p hp
  have hW' := hW
  obtain ⟨pa, pv, hA, hV, hps, hz, hn⟩ := hW'
  rw [hs] at hV
  obtain ⟨rfl, rfl⟩ := trodVars_none hV
  rw [List.append_nil] at hps
  subst hps
  have hfn' : s.fn H (ds ++ []) = { results := [.lit (.bool true)], args := ds } := by rw [List.append_nil]; exact hfn
  have hargs : ∀ sp : Nat → Bool, (∀ p ∈ before, sp p.block = true) → DataW.TrodAll enc Tryz.prog W' 0 sp true f.params.toList args.toList (s.fn H (ds ++ [])).args before := fun sp hsp => by
    rw [hfn']; exact trodAll_stays hr hA (fun p hp => same_of_below hb (hlt p hp)) hsp
  have hresT : ∀ (b : Nat) (sp : Nat → Bool) (hd : Bool), DataW.TrodAll enc Tryz.prog W' b sp hd f.resultTypes.toList ((Value.bool true).resultList f.resultTypes.size) (s.fn H (ds ++ [])).results [] := fun b sp hd => by
    rw [hfn', hres]; exact trodAll_cons_mk (shut_bool Tryz.underlying4 _) trodAll_mk0
  have hvars : ∀ sp : Nat → Bool, (∀ p ∈ before, sp p.block = true) → DataW.TrodVars enc Tryz.prog W' sp s.vars (s.fn H (ds ++ [])).vars [] := fun sp _ => by
    rw [hfn', hs]; rfl
  refine ⟨ds, [], before, [], before, [], hW, hresT _ _ _, hargs _ hold, hvars _ hold, World.keptBut_mono (fun p hp => ⟨hp, Or.inr (Or.inl hp)⟩) (hb.frame (· ∈ before)), fun _ => ?_⟩
  refine ⟨?_, _, _, ([] ++ before) ++ [], ⟨[] ++ before, [], trodAll_append (hargs _ (fun _ _ => rfl)) (hresT _ _ _), hvars _ (fun _ _ => rfl), rfl, ?_, ?_⟩, ?_⟩
  · exact ok_one hres rfl (okWide_bool_mk Tryz.underlying4 _)
  · intro b off hp
    have hin : MemPlace.cell b off ∈ before := by simpa using hp
    rw [hb.frozen (hlt _ hin)]
    exact hz b off hin
  · intro ha; cases ha
  · intro p hp _; simpa using hp
end
def layCells (cs : Array Value) : Obj → Obj
  | .cells _ t frozen => .cells cs t frozen
  | o => o
open Go Go.ChangeShapes Go.WideShapes Go.ChangeAt Go.RowKit Go.Joins
theorem list_gets {α : Type} {n : Nat} {p : Nat → α → Prop} (h : ∀ i, i < n → ∃ x, p i x) : ∃ l : List α, l.length = n ∧ ∀ (i : Nat) (x : α), l[i]? = some x → p i x := by
  induction n with
  | zero => exact ⟨[], rfl, by simp⟩
  | succ n ih =>
    obtain ⟨l, hl, hp⟩ := ih (fun i hi => h i (by omega))
    obtain ⟨x, hx⟩ := h n (by omega)
    refine ⟨l ++ [x], by simp [hl], fun i y hy => ?_⟩
    rcases Nat.lt_or_ge i l.length with hi | hi
    · exact hp i y (by rwa [List.getElem?_append_left hi] at hy)
    · rw [List.getElem?_append_right hi] at hy
      have : i = n := by
        have := (List.getElem?_eq_some_iff.1 hy).1
        simp at this; omega
      subst this
      rw [hl, Nat.sub_self] at hy
      obtain rfl : x = y := by simpa using hy
      exact hx
theorem chunks {s : Nat} : ∀ (n : Nat) (cs : List Value), cs.length = n * s → cs = (List.range n).flatMap fun i => (cs.drop (i * s)).take s := by
  intro n
  induction n with
  | zero => intro cs h; rw [Nat.zero_mul] at h; rw [List.eq_nil_of_length_eq_zero h]; rfl
  | succ n ih =>
    intro cs h
    rw [List.range_succ, List.flatMap_append, List.flatMap_singleton]
    have h1 := ih (cs.take (n * s)) (by rw [List.length_take, h, Nat.succ_mul]; omega)
    have h2 : (List.range n).flatMap (fun i => (cs.drop (i * s)).take s) = (List.range n).flatMap (fun i => ((cs.take (n * s)).drop (i * s)).take s) := by
      rw [List.flatMap_def, List.flatMap_def]
      congr 1
      apply List.map_congr_left
      intro i hi
      rw [List.mem_range] at hi
      have h3 : (i + 1) * s ≤ n * s := Nat.mul_le_mul_right s hi
      rw [Nat.succ_mul] at h3
      rw [List.drop_take, List.take_take]
      congr 1
      omega
    rw [h2, ← h1]
    have h4 : (cs.drop (n * s)).take s = cs.drop (n * s) := List.take_of_length_le (by rw [List.length_drop, h, Nat.succ_mul]; omega)
    rw [h4, List.take_append_drop]
def datE (k : Nat) : DataW Unit := .agg [.lit (.bool (exN (k : Int))), .lit (.bool (exR (k : Int))), .lit (.int .i64 (if k = 0 then 0 else kidsI (k : Int)))]
def datS (k : Nat) : DataW Unit := .agg [.lit (.bool (ptNm (k : Int))), .lit (.bool (ptLc (k : Int))), .lit (.bool (ptOr (k : Int))), .lit (.int .i64 (ptEx (k : Int))), .lit (.bool (ptTh (k : Int))), .lit (.bool (ptEl (k : Int)))]
theorem laidE : (Rows.laid_cantilever_ast_exprShapes : DataW Unit) = .agg ((List.range 17).map datE) := by kernel_rfl
theorem laidS : (Rows.laid_cantilever_ast_stmtShapes : DataW Unit) = .agg ((List.range 12).map datS) := by kernel_rfl
theorem cellsB : Tryz.prog.cellsOf 4 = 1 := by kernel_rfl
theorem cellsI : Tryz.prog.cellsOf 3 = 1 := by kernel_rfl
theorem cellsXE : Tryz.prog.cellsOf 91 = 3 := by kernel_rfl
theorem cellsXS : Tryz.prog.cellsOf 96 = 6 := by kernel_rfl
theorem gE : Tryz.prog.globalNamed "cantilever/ast.exprShapes" = some 0 := by kernel_rfl
theorem gS : Tryz.prog.globalNamed "cantilever/ast.stmtShapes" = some 1 := by kernel_rfl
theorem gET : (Tryz.prog.globals[0]?).map (·.type) = some 92 := by kernel_rfl
theorem gST : (Tryz.prog.globals[1]?).map (·.type) = some 97 := by kernel_rfl
section
variable {enc : TypeId × Value → Unit} {W : World} {sp : Nat → Bool} {held : Bool} {base : Nat}
set_option maxRecDepth 100000 in
theorem cells_shapeE {fuel : Nat} {cs : List Value} {y : DataW Unit × List MemPlace} {k : Nat} (h : DataW.trod enc Tryz.prog W base sp held fuel 91 cs = some y) (hy : y.1 = datE k) : cs = [.bool (exN (k : Int)), .bool (exR (k : Int)), .int .i64 (if k = 0 then 0 else kidsI (k : Int))] := by
  obtain ⟨xs, m, _, rfl, hl, hlen, hf⟩ := DataW.trod_struct Tryz.underlying91 h
  have g0 := hf 0 _ rfl
  have g1 := hf 1 _ rfl
  have g2 := hf 2 _ rfl
  have hlen : xs.length = 3 := hlen
  rw [cellsXE] at hl
  match xs, hlen, g0, g1, g2, hy with
  | [x0, x1, x2], _, g0, g1, g2, hy =>
    obtain ⟨b0, q0, rfl⟩ := DataW.trod_bool Tryz.underlying4 g0
    obtain ⟨b1, q1, rfl⟩ := DataW.trod_bool Tryz.underlying4 g1
    obtain ⟨b2, q2, rfl, _⟩ := DataW.trod_int Tryz.underlying3 g2
    match cs, hl, q0, q1, q2 with
    | [c0, c1, c2], _, q0, q1, q2 =>
      have e0 : c0 = .bool b0 := by simpa [cellsB] using q0
      have e1 : c1 = .bool b1 := by simpa [cellsB] using q1
      have e2 : c2 = .int .i64 b2 := by simpa [cellsI] using q2
      unfold datE at hy
      simp only [List.map_cons, List.map_nil, DataW.agg.injEq, List.cons.injEq, DataW.lit.injEq, Lit.bool.injEq, Lit.int.injEq, true_and, and_true] at hy
      rw [e0, e1, e2, hy.1, hy.2.1, hy.2.2]
set_option maxRecDepth 100000 in
theorem cells_shapeS {fuel : Nat} {cs : List Value} {y : DataW Unit × List MemPlace} {k : Nat} (h : DataW.trod enc Tryz.prog W base sp held fuel 96 cs = some y) (hy : y.1 = datS k) : cs = [.bool (ptNm (k : Int)), .bool (ptLc (k : Int)), .bool (ptOr (k : Int)), .int .i64 (ptEx (k : Int)), .bool (ptTh (k : Int)), .bool (ptEl (k : Int))] := by
  obtain ⟨xs, m, _, rfl, hl, hlen, hf⟩ := DataW.trod_struct Tryz.underlying96 h
  have g0 := hf 0 _ rfl
  have g1 := hf 1 _ rfl
  have g2 := hf 2 _ rfl
  have g3 := hf 3 _ rfl
  have g4 := hf 4 _ rfl
  have g5 := hf 5 _ rfl
  have hlen : xs.length = 6 := hlen
  rw [cellsXS] at hl
  match xs, hlen, g0, g1, g2, g3, g4, g5, hy with
  | [x0, x1, x2, x3, x4, x5], _, g0, g1, g2, g3, g4, g5, hy =>
    obtain ⟨b0, q0, rfl⟩ := DataW.trod_bool Tryz.underlying4 g0
    obtain ⟨b1, q1, rfl⟩ := DataW.trod_bool Tryz.underlying4 g1
    obtain ⟨b2, q2, rfl⟩ := DataW.trod_bool Tryz.underlying4 g2
    obtain ⟨b3, q3, rfl, _⟩ := DataW.trod_int Tryz.underlying3 g3
    obtain ⟨b4, q4, rfl⟩ := DataW.trod_bool Tryz.underlying4 g4
    obtain ⟨b5, q5, rfl⟩ := DataW.trod_bool Tryz.underlying4 g5
    match cs, hl, q0, q1, q2, q3, q4, q5 with
    | [c0, c1, c2, c3, c4, c5], _, q0, q1, q2, q3, q4, q5 =>
      have e0 : c0 = .bool b0 := by simpa [cellsB] using q0
      have e1 : c1 = .bool b1 := by simpa [cellsB] using q1
      have e2 : c2 = .bool b2 := by simpa [cellsB] using q2
      have e3 : c3 = .int .i64 b3 := by simpa [cellsI] using q3
      have e4 : c4 = .bool b4 := by simpa [cellsB] using q4
      have e5 : c5 = .bool b5 := by simpa [cellsB] using q5
      unfold datS at hy
      simp only [List.map_cons, List.map_nil, DataW.agg.injEq, List.cons.injEq, DataW.lit.injEq, Lit.bool.injEq, Lit.int.injEq, true_and, and_true] at hy
      rw [e0, e1, e2, e3, e4, e5, hy.1, hy.2.1, hy.2.2.1, hy.2.2.2.1, hy.2.2.2.2.1, hy.2.2.2.2.2]
end
theorem var_cells {W : World} {name : String} {g : Nat} {cs : List Value} (hg : Tryz.prog.globalNamed name = some g) (hv : W.var? Tryz.prog name = some cs.toArray) : CellsAt W ⟨g, 0, none⟩ cs := by
  intro j v hj
  have h := World.var?_cell hg hv j
  rw [Addr.add_mid, Nat.zero_add, h]
  simpa using hj
set_option maxRecDepth 100000 in
theorem tab_of {W : World} {l : List (String × DataW Unit)} (h : laidMetH Tryz.prog l W) (hl : (l.filter fun x => x.2.handleName?.isNone) = [("cantilever/ast.exprShapes", Rows.laid_cantilever_ast_exprShapes), ("cantilever/ast.stmtShapes", Rows.laid_cantilever_ast_stmtShapes)]) : TabOk W := by
  have h1 := (laidMetH_iff.1 h).1
  rw [hl] at h1
  obtain ⟨ps, ⟨g1, t1, cs1, f1, p1, q1, hg1, ht1, hv1, hd1, ⟨g2, t2, cs2, f2, p2, q2, hg2, ht2, hv2, hd2, _, _⟩, _⟩, _⟩ := h1
  obtain rfl := Option.some.inj (gE.symm.trans hg1)
  obtain rfl := Option.some.inj (gET.symm.trans ht1)
  obtain rfl := Option.some.inj (gS.symm.trans hg2)
  obtain rfl := Option.some.inj (gST.symm.trans ht2)
  refine ⟨?_, ?_⟩
  · obtain ⟨xs, m, _, hx, hcl, hxl, hel⟩ := DataW.trod_array Tryz.underlying92 hd1
    rw [laidE] at hx
    have hxs : xs.map (·.1) = (List.range 17).map datE := by
      have := congrArg Prod.fst hx
      simp only [DataW.agg.injEq] at this
      exact this.symm
    have e : cs1.toList = tabE := by
      rw [chunks (s := 3) 17 cs1.toList (hcl.trans (by kernel_rfl))]
      unfold tabE
      rw [List.flatMap_def, List.flatMap_def]
      congr 1
      apply List.map_congr_left
      intro i hi
      rw [List.mem_range] at hi
      have h2 := hel i hi
      rw [cellsXE, List.getElem?_eq_getElem (by omega)] at h2
      refine cells_shapeE (k := i) h2 ?_
      have h3 : (xs.map (·.1))[i]? = some (datE i) := by rw [hxs, List.getElem?_map, List.getElem?_range hi]; rfl
      rw [List.getElem?_map, List.getElem?_eq_getElem (by omega)] at h3
      exact Option.some.inj h3
    rw [← e]
    exact var_cells gE (by simpa using hv1)
  · obtain ⟨xs, m, _, hx, hcl, hxl, hel⟩ := DataW.trod_array Tryz.underlying97 hd2
    rw [laidS] at hx
    have hxs : xs.map (·.1) = (List.range 12).map datS := by
      have := congrArg Prod.fst hx
      simp only [DataW.agg.injEq] at this
      exact this.symm
    have e : cs2.toList = tabS := by
      rw [chunks (s := 6) 12 cs2.toList (hcl.trans (by kernel_rfl))]
      unfold tabS
      rw [List.flatMap_def, List.flatMap_def]
      congr 1
      apply List.map_congr_left
      intro i hi
      rw [List.mem_range] at hi
      have h2 := hel i hi
      rw [cellsXS, List.getElem?_eq_getElem (by omega)] at h2
      refine cells_shapeS (k := i) h2 ?_
      have h3 : (xs.map (·.1))[i]? = some (datS i) := by rw [hxs, List.getElem?_map, List.getElem?_range hi]; rfl
      rw [List.getElem?_map, List.getElem?_eq_getElem (by omega)] at h3
      exact Option.some.inj h3
    rw [← e]
    exact var_cells gS (by simpa using hv2)
noncomputable def laidWorld (os : Os) (vals : Array Value) : World :=
  let w0 := World.holding Tryz.prog os ⟨#[], vals, []⟩
  { w0 with heap := (w0.heap.modify 0 (layCells tabE.toArray)).modify 1 (layCells tabS.toArray) }
end Go.Proofs.YtiigncmpbkfhmaaGreatDoor
namespace Go.Proofs.YtiigncmpbkfhmaaGreatDoor
open Go Go.RowKit
def zerosL (n : Nat) (zs : List Value) : List Value := (List.replicate n zs).flatten
theorem zerosL_length (n : Nat) (zs : List Value) : (zerosL n zs).length = n * zs.length := by
  unfold zerosL; rw [List.length_flatten, List.map_replicate, List.sum_replicate_nat]
theorem zerosL_succ (n : Nat) (zs : List Value) : zerosL (n + 1) zs = zs ++ zerosL n zs := by
  unfold zerosL; rw [List.replicate_succ, List.flatten_cons]
theorem made_zeros (z : Array Value) (n : Nat) : (madeCells z (n * z.size)).toList = zerosL n z.toList := by
  unfold madeCells
  rw [Array.toList_map, Array.toList_range]
  induction n with
  | zero => simp [zerosL]
  | succ n ih =>
    rw [Nat.succ_mul, List.range_add, List.map_append, ih]
    have h1 : (List.map (fun x => z[x % z.size]!) (List.map (fun x => n * z.size + x) (List.range z.size))) = z.toList := by
      apply List.ext_getElem
      · simp
      · intro i h1 h2
        simp at h1
        simp [Nat.mul_add_mod', Nat.mod_eq_of_lt h1, h1]
    rw [h1]
    have h2 : zerosL (n + 1) z.toList = zerosL n z.toList ++ z.toList := by
      unfold zerosL; rw [List.replicate_succ', List.flatten_append]; simp
    rw [h2]
section
variable {P : Program} {ops : Array Oper} {Q : Exit → Act → World → Prop} {a : Act} {n i : Nat} {env : List (Nat × Value)} {l : List Nat} {w0 w w' : World} {its : List It}
theorem stepMake (hK : Knows a n env) (hM : Mem w0 w its) (d : Nat) {t e : TypeId} {x y : Operand} (zs : List Value) (m bytes : Nat) (hu : P.underlying t = some (.slice e)) (hi : (P.info? e).map (fun i => (i.zero.map (·.cells.toList), i.size, i.bytes)) = some (some zs, zs.length, bytes))
    (hc : chk ops env i n d = true) (hop : (opAt ops i).op = .makeSlice t x y) (hx : evE env x = vN m) (hy : evE env y = vN m) (hlim : m ≤ 1000000 ∧ bytes ≤ 100000)
    (h : ∀ b a' w', Knows a' n ((d, .slice (some ⟨b, 0, none⟩) m m) :: env) → Mem w0 w' (.row b e (zerosL m zs) :: its) → wpOps P ops Q l a' w') : wpOps P ops Q (i :: l) a w := by
  obtain ⟨j, hj, he⟩ := Option.map_eq_some_iff.1 hi
  simp only [Prod.mk.injEq] at he
  obtain ⟨hz, hs, hb⟩ := he
  obtain ⟨z, hz, hzc⟩ := Option.map_eq_some_iff.1 hz
  have h3 : j.bytes * m ≤ 100000 * 1000000 := Nat.mul_le_mul (by omega) hlim.1
  have hr := run_make (P := P) w t e j z hu hj hz .i64 .i64 (m : Int) (m : Int) (by omega) (Int.le_refl _) (by
    have : ((j.bytes * m : Nat) : Int) ≤ 281474976710656 := by omega
    rwa [Int.natCast_mul] at this) (by omega)
  simp only [Int.toNat_natCast] at hr
  have hsz : j.size = z.cells.size := by rw [hs, ← hzc]; simp
  have e2 : (madeCells z.cells (m * j.size)) = (zerosL m zs).toArray := by
    rw [hsz, ← hzc, ← made_zeros]
  rw [e2] at hr
  refine stepV hK d _ hc ?_ fun a' hK' => h _ a' _ hK' (hM.alloc e (zerosL m zs))
  simp [execOp, hop, hx, hy, hr]
theorem storeV_at {t : TypeId} {k : Nat} {cs new : List Value} {v : Value} (hi : (P.info? t).map (·.size) = some new.length) (hv : v.cells.toList = new) (h1 : new.all (·.oneCell') = true) (hk : k + new.length ≤ cs.length) : storeV P t k cs v = some (cs.take k ++ new ++ cs.drop (k + new.length)) := by
  obtain ⟨j, hj, hs⟩ := Option.map_eq_some_iff.1 hi
  unfold storeV
  rw [hj]
  simp only
  have e1 : v.cells.size = new.length := by rw [← hv]; simp
  have e2 : v.cells.all (·.oneCell') = true := by rw [← hv] at h1; simpa using h1
  rw [e2, hs, e1]
  have : (Nat.beq new.length new.length && Nat.ble (k + new.length) cs.length && true) = true := by
    rw [Nat.beq_refl, Bool.true_and, Bool.and_true]; rw [Nat.ble_eq]; exact hk
  rw [this, hv]; rfl
theorem stepStoreAt (hK : Knows a n env) (hM : Mem w0 w its) (j : Nat) {t tt : TypeId} {x y : Operand} {b k : Nat} {cs : List Value} {v : Value} (new cs' : List Value) (hc : chk0 ops env i = true) (hop : (opAt ops i).op = .store t x y) (hx : evE env x = .pointer (some ⟨b, k, none⟩)) (hy : evE env y = v) (hj : its[j]? = some (.row b tt cs))
    (hi : (P.info? t).map (·.size) = some new.length) (hv : v.cells.toList = new) (h1 : new.all (·.oneCell') = true) (hk : k + new.length ≤ cs.length) (hcs : cs.take k ++ new ++ cs.drop (k + new.length) = cs')
    (h : ∀ w', Mem w0 w' (its.set j (.row b tt cs')) → wpOps P ops Q l a w') : wpOps P ops Q (i :: l) a w := by
  subst hcs
  exact sS hK hM j _ hc hop hx hy hj (storeV_at hi hv h1 hk) h
end
theorem CellsAt.to {w : World} {a : Addr} {cs cs' : List Value} (h : CellsAt w a cs) (e : cs = cs') : CellsAt w a cs' := e ▸ h
theorem put_next {A new zs : List Value} {m k : Nat} (hA : A.length = k) (hz : zs.length = new.length) (hm : 0 < m) : (A ++ zerosL m zs).take k ++ new ++ (A ++ zerosL m zs).drop (k + new.length) = A ++ new ++ zerosL (m - 1) zs := by
  obtain ⟨m, rfl⟩ : ∃ q, m = q + 1 := ⟨m - 1, by omega⟩
  subst hA
  rw [zerosL_succ, List.take_left, ← List.drop_drop, List.drop_left, ← hz, List.drop_left]
  rfl
def HandAt {α : Type} (w : World) (A : Option Addr) (cs : α → List Value) (s : Nat) (l : List α) : Prop := ∀ (k : Nat) (x : α), l[k]? = some x → ∃ a, A = some a ∧ CellsAt w (a.add (k * s)) (cs x)
theorem HandAt.on {α : Type} {w w' : World} {A : Option Addr} {cs : α → List Value} {s : Nat} {l : List α} (h : HandAt w A cs s l) (hb : Below w.heap.size w w') : HandAt w' A cs s l := fun k x hx => (by
  obtain ⟨a, e1, e2⟩ := h k x hx
  exact ⟨a, e1, e2.on hb⟩)
theorem HandAt.row {α : Type} {w : World} {b : Nat} {t : TypeId} {f : α → Value} {l : List α} (h : RowT w b t (l.map f)) : HandAt w (some ⟨b, 0, none⟩) (fun x => [f x]) 1 l := by
  intro k x hx
  refine ⟨_, rfl, ?_⟩
  intro j v hj
  have h0 : j = 0 := by
    have := (List.getElem?_eq_some_iff.1 hj).1
    simp at this; omega
  subst h0
  obtain rfl := Option.some.inj hj
  rw [Nat.mul_one]
  have e : (Addr.add (⟨b, 0, none⟩ : Addr) k).add 0 = ⟨b, k, none⟩ := by
    rw [show (Addr.add (⟨b, 0, none⟩ : Addr) k).add 0 = Addr.add (⟨b, 0, none⟩ : Addr) k from if_pos rfl, Addr.add_mid, Nat.zero_add]
  rw [e, h.cell, List.getElem?_map, hx]; rfl
theorem own_hand {α : Type} {base : Nat} {w : World} {e : TypeId} {v : Value} {n : Nat} {f : α → Value} {l : List α} (h : w.ownsRow base e 1 v n (l.map f)) : ∃ A c, v = .slice A l.length c ∧ n = l.length ∧ HandAt w A (fun x => [f x]) 1 l ∧ (A = none → l = []) := by
  have hn : l.length = n := by have := h.1; simp at this; omega
  rcases h.2 with ⟨rfl, h0⟩ | ⟨g, cap, cur, rfl, hg, hh, h1, h2, h3, h4⟩
  · have hl : l = [] := List.eq_nil_of_length_eq_zero (by omega)
    subst hl
    exact ⟨none, 0, rfl, h0, fun k x hx => (by simp at hx), fun _ => rfl⟩
  · refine ⟨some ⟨g, 0, none⟩, cap, by rw [hn], hn.symm, ?_, fun h => (by cases h)⟩
    intro k x hx
    refine ⟨_, rfl, ?_⟩
    intro j u hj
    have h0 : j = 0 := by
      have := (List.getElem?_eq_some_iff.1 hj).1
      simp at this; omega
    subst h0
    obtain rfl := Option.some.inj hj
    rw [Nat.mul_one, show (Addr.add (⟨g, 0, none⟩ : Addr) k).add 0 = Addr.add (⟨g, 0, none⟩ : Addr) k from if_pos rfl]
    exact h.cells (g := g) rfl k _ (by rw [List.getElem?_map, hx]; rfl)
theorem row_own {base : Nat} {w : World} {b : Nat} {t : TypeId} {cs : List Value} {n s : Nat} (hb : base ≤ b) (h : RowT w b t cs) (hl : cs.length = n * s) (hn : n ≤ 1000000) : w.ownsRow base t s (.slice (some ⟨b, 0, none⟩) n n) n cs := by
  refine ⟨hl, .inr ⟨b, n, cs.toArray, rfl, hb, h, Nat.le_refl _, by unfold maxLen; omega, by simp [hl], by rw [← hl]; simp⟩⟩
theorem Mem.rowOwn {w0 w : World} {its : List It} {b : Nat} {t : TypeId} {cs : List Value} (hM : Mem w0 w (.row b t cs :: its)) {n s : Nat} (hl : cs.length = n * s) (hn : n ≤ 1000000) : Mem w0 w (.own t s (.slice (some ⟨b, 0, none⟩) n n) n cs :: its) := by
  refine ⟨hM.below, fun it hi => ?_, ?_⟩
  · rcases List.mem_cons.1 hi with rfl | hi
    · have h := hM.each _ List.mem_cons_self
      exact row_own h.1 h.2 hl hn
    · exact hM.each it (List.mem_cons_of_mem _ hi)
  · have := hM.apart
    rw [List.pairwise_cons] at this ⊢
    refine ⟨fun y hy => ?_, this.2⟩
    exact this.1 y hy
theorem run_eqNil {P : Program} {o : Oper} {ρ : Operand → Value} {w : World} {t e u : TypeId} {x y : Operand} {A : Option Addr} {n c : Nat} (hop : o.op = .binOp .eql t x y u) (hx : ρ x = .slice A n c) (hy : ρ y = .slice none 0 0) (ht : P.underlying t = some (.slice e)) : (execOp ρ o).run P w = .ok (.value (.bool A.isNone)) w := by
  simp [execOp, hop, hx, hy, go_sem, binOp, run_equal_slice_nil w t e A n c ht, Result.andThen]
def kL (c : Int → Nat) : List Value := (List.range 11).map fun j : Nat => .int .i64 ((c ((j : Int) + 1) : Nat) : Int)
def bumpK (k : Int) (c : Int → Nat) : Int → Nat := fun j => c j + if k = j then 1 else 0
theorem kL_out {k : Int} (h : ¬ (1 ≤ k ∧ k ≤ 11)) (c : Int → Nat) : kL (bumpK k c) = kL c := by
  unfold kL bumpK
  apply List.map_congr_left
  intro j hj
  rw [List.mem_range] at hj
  rw [if_neg (by omega), Nat.add_zero]
theorem kL_at {k : Int} (h : 1 ≤ k ∧ k ≤ 11) (c : Int → Nat) : ((kL c).drop ((k - 1).toNat * 1)).take 1 = [.int .i64 ((c k : Nat) : Int)] := by
  obtain ⟨j, rfl⟩ : ∃ j : Nat, k = (j : Int) + 1 := ⟨(k - 1).toNat, by omega⟩
  have hj : j < 11 := by omega
  rw [show ((j : Int) + 1 - 1).toNat * 1 = j by omega]
  have e : (kL c)[j]? = some (.int .i64 ((c ((j : Int) + 1) : Nat) : Int)) := by
    unfold kL; rw [List.getElem?_map, List.getElem?_range hj]; rfl
  obtain ⟨h1, h2⟩ := List.getElem?_eq_some_iff.1 e
  rw [List.drop_eq_getElem_cons h1, h2]; rfl
theorem kL_put {k : Int} (h : 1 ≤ k ∧ k ≤ 11) (c : Int → Nat) : (kL c).take ((k - 1).toNat * 1) ++ [Value.int .i64 (((c k + 1 : Nat)) : Int)] ++ (kL c).drop ((k - 1).toNat * 1 + [Value.int .i64 (((c k + 1 : Nat)) : Int)].length) = kL (bumpK k c) := by
  obtain ⟨j, rfl⟩ : ∃ j : Nat, k = (j : Int) + 1 := ⟨(k - 1).toNat, by omega⟩
  have hj : j < 11 := by omega
  rw [show ((j : Int) + 1 - 1).toNat * 1 = j by omega]
  have hlen : (kL c).length = 11 := by simp [kL]
  apply List.ext_getElem?
  intro q
  show (_ ++ _ ++ (kL c).drop (j + 1))[q]? = _
  have hk : ∀ c : Int → Nat, ∀ q, (kL c)[q]? = if q < 11 then some (.int .i64 ((c ((q : Int) + 1) : Nat) : Int)) else none := by
    intro c q
    unfold kL
    rw [List.getElem?_map]
    split
    · rename_i hq; rw [List.getElem?_range hq]; rfl
    · rename_i hq; rw [List.getElem?_eq_none (by simpa using hq)]; rfl
  rw [hk (bumpK _ c)]
  rcases Nat.lt_trichotomy q j with hq | hq | hq
  · rw [List.getElem?_append_left (by simp [hlen]; omega), List.getElem?_append_left (by simp [hlen]; omega), List.getElem?_take, if_pos hq, hk]
    unfold bumpK
    rw [if_neg (show ¬ ((j : Int) + 1 = (q : Int) + 1) by omega), Nat.add_zero]
  · subst hq
    rw [List.getElem?_append_left (by simp [hlen]; omega), List.getElem?_append_right (by simp [hlen]; omega)]
    have : ((kL c).take q).length = q := by simp [hlen]; omega
    rw [this, Nat.sub_self, if_pos hj]
    unfold bumpK
    rw [if_pos rfl]; rfl
  · rw [List.getElem?_append_right (by simp [hlen]; omega)]
    have : (((kL c).take j) ++ [Value.int .i64 (((c ((j : Int) + 1) + 1 : Nat)) : Int)]).length = j + 1 := by simp [hlen]; omega
    rw [this, List.getElem?_drop, show j + 1 + (q - (j + 1)) = q by omega, hk]
    unfold bumpK
    rw [if_neg (show ¬ ((j : Int) + 1 = (q : Int) + 1) by omega), Nat.add_zero]
end Go.Proofs.YtiigncmpbkfhmaaGreatDoor
namespace Go.Proofs.YtiigncmpbkfhmaaGreatDoor
open Go Go.RowKit
theorem flat_at {α : Type} {f : α → List Value} {s : Nat} (hf : ∀ x, (f x).length = s) : ∀ {l : List α} {k : Nat} {x : α}, l[k]? = some x → ((l.flatMap f).drop (k * s)).take s = f x := by
  intro l
  induction l with
  | nil => intro k x h; simp at h
  | cons y r ih =>
    intro k x h
    rw [List.flatMap_cons]
    cases k with
    | zero => obtain rfl := Option.some.inj h; rw [Nat.zero_mul, List.drop_zero, ← hf y, List.take_left]
    | succ k =>
      rw [Nat.succ_mul, Nat.add_comm, ← List.drop_drop]
      have h2 : ((f y) ++ r.flatMap f).drop s = r.flatMap f := by rw [← hf y, List.drop_left]
      rw [h2]
      exact ih (by simpa using h)
theorem RowT.atCells {w : World} {b : Nat} {t : TypeId} {cs : List Value} (h : RowT w b t cs) (i m : Nat) : CellsAt w ((⟨b, 0, none⟩ : Addr).add i) ((cs.drop i).take m) := by
  rcases Nat.eq_zero_or_pos i with hi | hi
  · subst hi; exact h.cells 0 m
  · have h1 := (h.cells 0 cs.length).addA i m hi
    rw [List.drop_zero, List.take_length] at h1
    exact h1
theorem exs_row {w : World} {b : Nat} {l : List Ex} (h : RowT w b 28 (l.flatMap cE)) (hx : ∀ x ∈ l, ExAt w x) : ExsAt w (some ⟨b, 0, none⟩) l := by
  intro k x hk
  refine ⟨⟨_, rfl, ?_⟩, hx x (List.mem_of_getElem? hk)⟩
  exact (h.atCells (k * 4) 4).to (flat_at (f := cE) (s := 4) (fun _ => rfl) hk)
theorem sms_row {w : World} {b : Nat} {l : List Sm} (h : RowT w b 64 (l.flatMap cS)) (hx : ∀ x ∈ l, SmAt w x) : SmsAt w (some ⟨b, 0, none⟩) l := by
  intro k x hk
  refine ⟨⟨_, rfl, ?_⟩, hx x (List.mem_of_getElem? hk)⟩
  exact (h.atCells (k * 7) 7).to (flat_at (f := cS) (s := 7) (fun _ => rfl) hk)
theorem exs_nil (w : World) (A : Option Addr) : ExsAt w A [] := fun k x hx => by simp at hx
theorem sms_nil (w : World) (A : Option Addr) : SmsAt w A [] := fun k x hx => by simp at hx
theorem ex_node {w : World} {e : Ex} (hn : e.nm.length ≤ 65536) (hk : e.ks.length ≤ 65536) (h : ExsAt w e.A e.ks) : ExAt w e := .mk e ⟨by omega, by omega⟩ (fun k x hx => (h k x hx).1) fun k x hx => (h k x hx).2
theorem sm_node {w : World} {s : Sm} (hn : s.nm.length ≤ 65536 ∧ s.loc.length ≤ 65536 ∧ s.es.length ≤ 65536 ∧ s.th.length ≤ 65536 ∧ s.el.length ≤ 65536) (h1 : ExsAt w s.A1 s.es) (h2 : SmsAt w s.A2 s.th) (h3 : SmsAt w s.A3 s.el) : SmAt w s :=
  .mk s (by omega) h1 (fun k x hx => (h2 k x hx).1) (fun k x hx => (h2 k x hx).2) (fun k x hx => (h3 k x hx).1) fun k x hx => (h3 k x hx).2
def exR0 : Ex := .mk 2 0 [114] none 0 []
def ex10 : Ex := .mk 1 1 [] none 0 []
def exOp (op : Int) (b : Nat) : Ex := .mk op 0 [] (some ⟨b, 0, none⟩) 2 [exR0, ex10]
def st1 (A : Option Addr) (c : Nat) (els : List Sm) : Sm := .mk 2 [114] [120] 3 none 0 [] none 0 [] A c els
def stSt (k1 e1 : Nat) : Sm := .mk 3 [] [120] 4 (some ⟨e1, 0, none⟩) 1 [exOp 14 k1] none 0 [] none 0 []
def stIf (k1 e1 s1 k2 e2 : Nat) : Sm := .mk 10 [] [] 0 (some ⟨e2, 0, none⟩) 1 [exOp 7 k2] (some ⟨s1, 0, none⟩) 1 [stSt k1 e1] none 0 []
def pgT (k1 e1 s1 d0 k2 e2 s0 t0 : Nat) (A : Option Addr) (c : Nat) (els : List Sm) : Pg := { A1 := some ⟨d0, 0, none⟩, c1 := 1, ds := [⟨[120], false, 0⟩], A2 := some ⟨t0, 0, none⟩, c2 := 1, ts := [⟨some ⟨s0, 0, none⟩, 2, [st1 A c els, stIf k1 e1 s1 k2 e2]⟩] }
theorem exOp_at {w : World} {op : Int} {b : Nat} (h : RowT w b 28 ([exR0, ex10].flatMap cE)) : ExAt w (exOp op b) :=
  ex_node (show ([] : List UInt8).length ≤ _ by decide) (show [exR0, ex10].length ≤ _ by decide) (exs_row h fun x hx => by
    rcases List.mem_cons.1 hx with rfl | hx
    · exact ex_node (show [(114 : UInt8)].length ≤ _ by decide) (show ([] : List Ex).length ≤ _ by decide) (exs_nil _ _)
    · obtain rfl := List.mem_singleton.1 hx
      exact ex_node (show ([] : List UInt8).length ≤ _ by decide) (show ([] : List Ex).length ≤ _ by decide) (exs_nil _ _))
theorem pages_at {w : World} {k1 e1 s1 d0 k2 e2 s0 t0 : Nat} {A : Option Addr} {c : Nat} {els : List Sm} (h1 : RowT w k1 28 ([exR0, ex10].flatMap cE)) (h2 : RowT w e1 28 ([exOp 14 k1].flatMap cE)) (h3 : RowT w s1 64 ([stSt k1 e1].flatMap cS)) (h4 : RowT w d0 48 [Str [120], .bool false, .int .i64 0])
    (h5 : RowT w k2 28 ([exR0, ex10].flatMap cE)) (h6 : RowT w e2 28 ([exOp 7 k2].flatMap cE)) (h7 : RowT w s0 64 ([st1 A c els, stIf k1 e1 s1 k2 e2].flatMap cS)) (h8 : RowT w t0 38 [.slice (some ⟨s0, 0, none⟩) 2 2]) (hel : els.length ≤ 65536) (h9 : SmsAt w A els) : PgAt w (pgT k1 e1 s1 d0 k2 e2 s0 t0 A c els) := by
  have hst : SmAt w (stSt k1 e1) := sm_node ⟨Nat.zero_le _, (show 1 ≤ 65536 by decide), (show 1 ≤ 65536 by decide), Nat.zero_le _, Nat.zero_le _⟩ (exs_row h2 fun x hx => by obtain rfl := List.mem_singleton.1 hx; exact exOp_at h1) (sms_nil _ _) (sms_nil _ _)
  have hif : SmAt w (stIf k1 e1 s1 k2 e2) := sm_node ⟨Nat.zero_le _, Nat.zero_le _, (show 1 ≤ 65536 by decide), (show 1 ≤ 65536 by decide), Nat.zero_le _⟩ (exs_row h6 fun x hx => by obtain rfl := List.mem_singleton.1 hx; exact exOp_at h5) (sms_row h3 fun x hx => by obtain rfl := List.mem_singleton.1 hx; exact hst) (sms_nil _ _)
  have hs1 : SmAt w (st1 A c els) := sm_node ⟨(show 1 ≤ 65536 by decide), (show 1 ≤ 65536 by decide), Nat.zero_le _, Nat.zero_le _, hel⟩ (exs_nil _ _) (sms_nil _ _) h9
  refine ⟨fun k d hd => ?_, fun k t ht => ?_, (show 1 ≤ 9223372036854775807 by decide), (show 1 ≤ 9223372036854775807 by decide)⟩
  · cases k with
    | zero =>
      obtain rfl := Option.some.inj hd
      exact ⟨⟨_, rfl, h4.atCells 0 3⟩, (show 1 ≤ 9223372036854775807 by decide)⟩
    | succ k => simp [pgT] at hd
  · cases k with
    | zero =>
      obtain rfl := Option.some.inj ht
      refine ⟨⟨_, rfl, h8.atCells 0 1⟩, sms_row h7 fun x hx => ?_, (show 2 ≤ 9223372036854775807 by decide)⟩
      rcases List.mem_cons.1 hx with rfl | hx
      · exact hs1
      · obtain rfl := List.mem_singleton.1 hx; exact hif
    | succ k => simp [pgT] at ht
theorem own_at {α : Type} {base : Nat} {w : World} {e : TypeId} {A : Option Addr} {q c n : Nat} {f : α → Value} {l : List α} (h : w.ownsRow base e 1 (.slice A q c) n (l.map f)) : HandAt w A (fun x => [f x]) 1 l := by
  obtain ⟨A', c', e', _, hH, _⟩ := own_hand h
  injection e' with e1
  subst e1; exact hH
end Go.Proofs.YtiigncmpbkfhmaaGreatDoor
namespace Go.Proofs.YtiigncmpbkfhmaaGreatDoor
open Go Go.RowKit
section
variable {P : Program} {ops : Array Oper} {Q : Exit → Act → World → Prop} {a : Act} {n i : Nat} {env : List (Nat × Value)} {l : List Nat} {w0 w w' : World} {its : List It} {o : Oper} {ρ : Operand → Value}
def SrcAt (w : World) (B : Option Addr) (m c : Nat) (news : List Value) : Prop := (B = none ∧ m = 0 ∧ c = 0 ∧ news = []) ∨ ∃ ad, B = some ad ∧ ∀ (k : Nat) (u : Value), news[k]? = some u → w.cell? (ad.add k) = some u
theorem Mem.appendS {t ty ety : TypeId} {z : Value} {size bytes : Nat} (hM : Mem w0 w its) (j : Nat) {m n c : Nat} {B : Option Addr} {v : Value} {xs news : List Value} (ht : P.underlying t = some (.slice ety)) (he : Elem P ety z size bytes)
    (hj : its[j]? = some (.own ety size v n xs)) (hs : SrcAt w B m c news) (hl : news.length = m * size) (h1 : news.all (·.oneCell') = true) (hlim : n + m ≤ 1000000000 ∧ bytes ≤ 100000) :
    ∃ v' w', (Builtin.append_ #[t, t] ty #[v, .slice B m c]).run P w = .ok v' w' ∧ Mem w0 w' (its.set j (.own ety size v' (n + m) (xs ++ news))) := by
  obtain ⟨i, hi, hz, hs', hb⟩ := he.info
  have hown := hM.own j hj
  rcases hs with ⟨rfl, rfl, rfl, rfl⟩ | ⟨ad, rfl, hat⟩
  · refine ⟨v, w, run_append_owned_none (P := P) w w0.heap.size t ty ety i size ht hi v n xs hown, ?_⟩
    obtain ⟨hlt, hge⟩ := List.getElem?_eq_some_iff.1 hj
    rw [List.append_nil, Nat.add_zero, ← hge, List.set_getElem_self]
    exact hM
  · obtain ⟨v', w', hr, ho, hg, _, hat2⟩ := run_append_own_at (P := P) w w0.heap.size t ty ety i z size bytes ht hi hz hs' hb he.cells he.pos v n xs hown ad m c news hl
      hat (fun u hu => List.all_eq_true.1 h1 u hu) (by unfold maxLen; omega)
      (by have h3 : (n + m) * bytes ≤ 1000000000 * 100000 := Nat.mul_le_mul hlim.1 hlim.2; omega) hM.size
    refine ⟨v', w', hr, hM.turn j hj ho (hM.below.grown hg hM.size fun k hk => (hown.lt k hk).1) (fun k hk hne => hg.block k hk fun e => hne e.symm) ?_⟩
    rcases hat2 with h | h
    · exact .inl h
    · exact .inr fun k hk => by
        have : some k = some w.heap.size := hk.symm.trans h
        rw [Option.some.inj this]; exact Nat.le_refl _
theorem stepAppendS {t ety : TypeId} {z : Value} {size bytes : Nat} (hK : Knows a n env) (hM : Mem w0 w its) (d j : Nat) {m k c : Nat} {B : Option Addr} {x y : Operand} {v : Value} {xs news : List Value} (ht : P.underlying t = some (.slice ety)) (he : Elem P ety z size bytes) (hc : chk ops env i n d = true)
    (hop : (opAt ops i).op = .call { callee := .builtin .append, args := #[x, y], argTypes := #[t, t] }) (hx : evE env x = v) (hy : evE env y = .slice B m c)
    (hj : its[j]? = some (.own ety size v k xs)) (hs : SrcAt w B m c news) (hl : news.length = m * size) (h1 : news.all (·.oneCell') = true) (hlim : k + m ≤ 1000000000 ∧ bytes ≤ 100000)
    (h : ∀ v' a' w', Knows a' n ((d, v') :: env) → Mem w0 w' (its.set j (.own ety size v' (k + m) (xs ++ news))) → wpOps P ops Q l a' w') : wpOps P ops Q (i :: l) a w := by
  obtain ⟨v', w', hr, hm⟩ := hM.appendS (P := P) (ty := (opAt ops i).type) (c := c) j ht he hj hs hl h1 hlim
  refine stepV hK d v' hc ?_ fun a' hK' => h v' a' w' hK' hm
  simp [execOp, hop, resolve, invoke, builtin, hx, hy, hr, Result.andThen]
theorem own_parts {base : Nat} {e : TypeId} {s n c : Nat} {A : Option Addr} {ys : List Value} (h : w.ownsRow base e s (.slice A n c) n ys) : n ≤ c ∧ ((A = none ∧ n = 0 ∧ c = 0 ∧ ys = []) ∨ ∃ g, A = some ⟨g, 0, none⟩ ∧ ∀ (k : Nat) (u : Value), ys[k]? = some u → w.cell? ⟨g, k, none⟩ = some u) := by
  rcases h.2 with ⟨e1, h0⟩ | ⟨g, cap, cur, e1, hg, hh, h1, h2, h3, h4⟩
  · simp only [Value.slice.injEq] at e1
    obtain ⟨rfl, rfl, rfl⟩ := e1
    refine ⟨Nat.le_refl _, .inl ⟨rfl, rfl, rfl, List.eq_nil_of_length_eq_zero ?_⟩⟩
    rw [h.1, Nat.zero_mul]
  · simp only [Value.slice.injEq] at e1
    obtain ⟨rfl, _, rfl⟩ := e1
    refine ⟨h1, .inr ⟨g, rfl, fun k u hu => ?_⟩⟩
    have hk := (List.getElem?_eq_some_iff.1 hu).1
    rw [h.cellAt k (by rw [← h.1]; exact hk), hu]
theorem own_src {base : Nat} {e : TypeId} {s n c : Nat} {A : Option Addr} {ys : List Value} (h : w.ownsRow base e s (.slice A n c) n ys) : SrcAt w A n c ys := by
  rcases (own_parts h).2 with ⟨rfl, rfl, rfl, rfl⟩ | ⟨g, rfl, hc⟩
  · exact .inl ⟨rfl, rfl, rfl, rfl⟩
  · exact .inr ⟨_, rfl, fun k u hu => by rw [add0]; exact hc k u hu⟩
theorem part_src {base : Nat} {e : TypeId} {s n c : Nat} {A : Option Addr} {ys : List Value} (h : w.ownsRow base e s (.slice A n c) n ys) {lo hi : Nat} (h1 : lo ≤ hi) (h2 : hi ≤ n) : SrcAt w (if c = lo then A else A.map (·.add (lo * s))) (hi - lo) (c - lo) ((ys.drop (lo * s)).take ((hi - lo) * s)) := by
  have hcap := (own_parts h).1
  rcases (own_parts h).2 with ⟨rfl, rfl, rfl, rfl⟩ | ⟨g, rfl, hc⟩
  · obtain rfl : hi = 0 := by omega
    obtain rfl : lo = 0 := by omega
    exact .inl ⟨by simp, rfl, rfl, by simp⟩
  · by_cases hcl : c = lo
    · rw [if_pos hcl]
      refine .inr ⟨_, rfl, fun k u hu => ?_⟩
      have hk := (List.getElem?_eq_some_iff.1 hu).1
      rw [List.length_take, show hi - lo = 0 by omega, Nat.zero_mul] at hk
      omega
    · rw [if_neg hcl]
      refine .inr ⟨_, rfl, fun k u hu => ?_⟩
      rw [List.getElem?_take] at hu
      split at hu
      · rw [List.getElem?_drop] at hu
        have := hc _ u hu
        show w.cell? (((⟨g, 0, none⟩ : Addr).add (lo * s)).add k) = some u
        rw [add0]
        by_cases hk : k = 0
        · subst hk; exact this
        · rw [Addr.add_mid]; exact this
      · cases hu
theorem row_src {b m c : Nat} {t : TypeId} {cs : List Value} (h : RowT w b t cs) : SrcAt w (some ⟨b, 0, none⟩) m c cs := .inr ⟨_, rfl, fun k u hu => by rw [add0, h.cell]; exact hu⟩
theorem Mem.rowOwnAt (hM : Mem w0 w its) (j : Nat) {b : Nat} {t : TypeId} {cs : List Value} {n s : Nat} (hj : its[j]? = some (.row b t cs)) (hl : cs.length = n * s) (hn : n ≤ 1000000) : Mem w0 w (its.set j (.own t s (.slice (some ⟨b, 0, none⟩) n n) n cs)) := by
  have h := hM.each _ (List.mem_of_getElem? hj)
  exact hM.turn j hj (row_own h.1 h.2 hl hn) hM.below (fun k _ _ => rfl) (.inl rfl)
theorem own_cell {α : Type} {A : Option Addr} {ad : Addr} {cs : α → List Value} {L : List α} {k : Nat} {x : α} (h : HandAt w A cs 1 L) (hA : A = some ad) (hx : L[k]? = some x) : CellsAt w (ad.add (k * 1)) (cs x) := by
  obtain ⟨ad', e, hc⟩ := h k x hx
  rw [hA] at e
  obtain rfl := Option.some.inj e
  exact hc
theorem own_is {α : Type} {base n : Nat} {e : TypeId} {v : Value} {f : α → Value} {l : List α} (h : w.ownsRow base e 1 v n (l.map f)) : ∃ A c, v = .slice A l.length c := by
  obtain ⟨A, c, e, _⟩ := own_hand h
  exact ⟨A, c, e⟩
theorem all_one {α : Type} {f : α → Value} (hf : ∀ x, (f x).oneCell' = true) (L : List α) : (L.map f).all (·.oneCell') = true := by simp [hf]
theorem all_part {L : List Value} (h : L.all (·.oneCell') = true) (lo m : Nat) : ((L.drop lo).take m).all (·.oneCell') = true := by
  rw [List.all_eq_true] at h ⊢
  intro x hx
  exact h x (List.mem_of_mem_drop (List.mem_of_mem_take hx))
theorem elem_slice {P : Program} {t e : TypeId} (ht : P.underlying t = some (.slice e)) : P.elem t = e := by simp [Program.elem, ht]
theorem run_slcOH {t e : TypeId} {x y : Operand} {A : Option Addr} {m c k s : Nat} (hop : o.op = .slice t x none (some y) none) (hx : ρ x = .slice A m c) (hy : ρ y = vN k) (ht : P.underlying t = some (.slice e)) (hs : (P.info? e).map (·.size) = some s) (hk : k ≤ c) : (execOp ρ o).run P w = .ok (.value (.slice (if c = 0 then A else A.map (·.add (0 * s))) (k - 0) (c - 0))) w := by
  obtain ⟨j, hj, hs⟩ := Option.map_eq_some_iff.1 hs
  have he := elem_slice ht
  have hr := run_slice_h (P := P) (w := w) t A m c (by rw [he]; exact ht) .i64 (k : Int) (by omega) (by omega)
  have hr2 := run_sliceAt_slice (P := P) (w := w) t (.slice A m c) none (some (.int .i64 (k : Int))) none (by rw [he]; exact ht)
  simp [execOp, hop, hx, hy, hr2, hr, sizeOf, typeInfo, he, hj, hs, sliced, Result.andThen]
theorem run_slcOL {t e : TypeId} {x y : Operand} {A : Option Addr} {m c k s : Nat} (hop : o.op = .slice t x (some y) none none) (hx : ρ x = .slice A m c) (hy : ρ y = vN k) (ht : P.underlying t = some (.slice e)) (hs : (P.info? e).map (·.size) = some s) (hk : k ≤ m) : (execOp ρ o).run P w = .ok (.value (.slice (if c = k then A else A.map (·.add (k * s))) (m - k) (c - k))) w := by
  obtain ⟨j, hj, hs⟩ := Option.map_eq_some_iff.1 hs
  have he := elem_slice ht
  have hr := run_slice_l (P := P) (w := w) t A m c (by rw [he]; exact ht) .i64 (k : Int) (by omega) (by omega)
  have hr2 := run_sliceAt_slice (P := P) (w := w) t (.slice A m c) (some (.int .i64 (k : Int))) none none (by rw [he]; exact ht)
  simp [execOp, hop, hx, hy, hr2, hr, sizeOf, typeInfo, he, hj, hs, sliced, Result.andThen]
end
theorem bytesLess_lt (l : List UInt8) : ∀ m : List UInt8, Op.bytesLess l m = decide (l < m) := by
  induction l with
  | nil =>
    intro m
    cases m with
    | nil => rfl
    | cons y s => simp [Op.bytesLess]
  | cons x r ih =>
    intro m
    cases m with
    | nil => simp [Op.bytesLess]
    | cons y s =>
      rw [Op.bytesLess, ih s]
      rw [Bool.eq_iff_iff]
      simp [List.cons_lt_cons_iff]
theorem run_ltS {o : Oper} {ρ : Operand → Value} {w : World} {x y : Operand} {l m : List UInt8} {t : TypeId} (hop : o.op = .binOp .lss 9 x y t) (hx : ρ x = Str l) (hy : ρ y = Str m) : (execOp ρ o).run Tryz.prog w = .ok (.value (.bool (decide (l < m)))) w := by
  have e := bytesLess_lt l m
  simp [execOp, hop, hx, hy, go_sem, Str, e]
set_option maxRecDepth 100000 in
theorem elem_str : Elem Tryz.prog 9 (.string ⟨#[]⟩) 1 16 := ⟨⟨_, rfl, by kernel_rfl, by kernel_rfl, by kernel_rfl⟩, rfl, by decide⟩
set_option maxRecDepth 100000 in
theorem elem_int : Elem Tryz.prog 3 (.int .i64 0) 1 8 := ⟨⟨_, rfl, by kernel_rfl, by kernel_rfl, by kernel_rfl⟩, rfl, by decide⟩
end Go.Proofs.YtiigncmpbkfhmaaGreatDoor
namespace Go.Proofs.YtiigncmpbkfhmaaGreatDoor
open Go Go.RowKit
def insL (x : List UInt8) : List (List UInt8) → List (List UInt8)
 | [] => [x]
 | y :: r => if y < x then y :: insL x r else if y = x then y :: r else x :: y :: r
def setL (l : List (List UInt8)) : List (List UInt8) := l.foldl (fun o x => insL x o) []
theorem mem_insL {x z : List UInt8} {o : List (List UInt8)} : z ∈ insL x o ↔ z = x ∨ z ∈ o := by
 induction o with
 | nil => simp [insL]
 | cons y r ih =>
  rw [insL]
  split
  ·simp only [List.mem_cons, ih]
   constructor
   ·rintro (h | h | h)
    ·exact .inr (.inl h)
    ·exact .inl h
    ·exact .inr (.inr h)
   ·rintro (h | h | h)
    ·exact .inr (.inl h)
    ·exact .inl h
    ·exact .inr (.inr h)
  ·split
   ·rename_i h
    subst h
    simp
   ·simp
theorem lt_of_not {x y : List UInt8} (h : ¬ y < x) (h2 : ¬ y = x) : x < y := by
 have h3 : x ≤ y := List.not_lt.1 h
 rcases Decidable.em (x < y) with h4 | h4
 ·exact h4
 ·exact absurd (List.le_antisymm (List.not_lt.1 h4) h3) h2
theorem insL_rise {x : List UInt8} {o : List (List UInt8)} (h : o.Pairwise (· < ·)) : (insL x o).Pairwise (· < ·) := by
 induction o with
 | nil => simp [insL]
 | cons y r ih =>
  rw [List.pairwise_cons] at h
  rw [insL]
  split
  ·rename_i hy
   rw [List.pairwise_cons]
   refine ⟨fun z hz => ?_, ih h.2⟩
   rcases mem_insL.1 hz with rfl | hz
   ·exact hy
   ·exact h.1 z hz
  ·split
   ·rw [List.pairwise_cons]; exact h
   ·rename_i h1 h2
    have hxy := lt_of_not h1 h2
    rw [List.pairwise_cons]
    refine ⟨fun z hz => ?_, List.pairwise_cons.2 h⟩
    rcases List.mem_cons.1 hz with rfl | hz
    ·exact hxy
    ·exact List.lt_trans hxy (h.1 z hz)
theorem insL_len (x : List UInt8) (o : List (List UInt8)) : (insL x o).length ≤ o.length + 1 := by
 induction o with
 | nil => simp [insL]
 | cons y r ih =>
  rw [insL]
  split
  ·simp only [List.length_cons]; omega
  ·split <;> simp
theorem insL_split {x : List UInt8} : ∀ {k : Nat} {o : List (List UInt8)}, k ≤ o.length → (∀ (j : Nat) (y : List UInt8), j < k → o[j]? = some y → y < x) → (∀ y, o[k]? = some y → ¬ y < x) → insL x o = if o[k]? = some x then o else o.take k ++ [x] ++ o.drop k := by
 intro k
 induction k with
 | zero =>
  intro o _ _ h
  cases o with
  | nil => simp [insL]
  | cons y r =>
   have h1 := h y rfl
   rw [insL, if_neg h1]
   by_cases h2 : y = x
   ·subst h2; simp
   ·rw [if_neg h2, if_neg (by simpa using h2)]; simp
 | succ k ih =>
  intro o hk hp hq
  cases o with
  | nil => simp at hk
  | cons y r =>
   have h1 := hp 0 y (by omega) rfl
   have h2 := ih (o := r) (by simpa using hk) (fun j z hj hz => hp (j + 1) z (by omega) (by simpa using hz)) (fun z hz => hq z (by simpa using hz))
   rw [insL, if_pos h1, h2, List.getElem?_cons_succ]
   split <;> simp
theorem setL_take {l : List (List UInt8)} {i : Nat} {x : List UInt8} (h : l[i]? = some x) : setL (l.take (i + 1)) = insL x (setL (l.take i)) := by
 unfold setL
 rw [List.take_add_one, h]
 simp
theorem setL_mem (l : List (List UInt8)) (z : List UInt8) : z ∈ setL l ↔ z ∈ l := by
 unfold setL
 have key : ∀ (l o : List (List UInt8)), z ∈ l.foldl (fun o x => insL x o) o ↔ z ∈ l ∨ z ∈ o := by
  intro l
  induction l with
  | nil => simp
  | cons x r ih =>
   intro o
   rw [List.foldl_cons, ih, mem_insL, List.mem_cons]
   constructor
   ·rintro (h | h | h)
    ·exact .inl (.inr h)
    ·exact .inl (.inl h)
    ·exact .inr h
   ·rintro ((h | h) | h)
    ·exact .inr (.inl h)
    ·exact .inl h
    ·exact .inr (.inr h)
 simpa using key l []
theorem setL_rise (l : List (List UInt8)) : (setL l).Pairwise (· < ·) := by
 unfold setL
 have key : ∀ (l o : List (List UInt8)), o.Pairwise (· < ·) → (l.foldl (fun o x => insL x o) o).Pairwise (· < ·) := by
  intro l
  induction l with
  | nil => intro o h; exact h
  | cons x r ih => intro o h; exact ih _ (insL_rise h)
 exact key l [] .nil
theorem setL_len (l : List (List UInt8)) : (setL l).length ≤ l.length := by
 unfold setL
 have key : ∀ (l o : List (List UInt8)), (l.foldl (fun o x => insL x o) o).length ≤ l.length + o.length := by
  intro l
  induction l with
  | nil => intro o; simp
  | cons x r ih =>
   intro o
   have h1 := ih (insL x o)
   have h2 := insL_len x o
   simp only [List.foldl_cons, List.length_cons]; omega
 simpa using key l []
theorem lt_irr (x : List UInt8) : ¬ x < x := List.lt_irrefl x
theorem rise_sorted {l ks : List (List UInt8)} (h : l.Pairwise (· < ·)) (hn : ks.Nodup) (hm : ∀ z, z ∈ l ↔ z ∈ ks) : l = ks.mergeSort Go.leB := by
 have tr : ∀ a b c : List UInt8, Go.leB a b = true → Go.leB b c = true → Go.leB a c = true := fun a b c h1 h2 => by simp only [Go.leB, decide_eq_true_eq] at *; exact List.le_trans h1 h2
 have to : ∀ a b : List UInt8, (Go.leB a b || Go.leB b a) = true := fun a b => by simp only [Go.leB, Bool.or_eq_true, decide_eq_true_eq]; exact List.le_total a b
 have hd : l.Nodup := h.imp fun {x y} hxy e => by subst e; exact lt_irr _ hxy
 have hp : l.Perm ks := (List.perm_ext_iff_of_nodup hd hn).2 hm
 refine List.Perm.eq_of_pairwise (le := fun a b => Go.leB a b = true) (fun a b _ _ h1 h2 => ?_) (h.imp fun {x y} hxy => ?_) (List.pairwise_mergeSort tr to ks) (hp.trans (List.mergeSort_perm ks Go.leB).symm)
 ·simp only [Go.leB, decide_eq_true_eq] at h1 h2
  exact List.le_antisymm h1 h2
 ·simp only [Go.leB, decide_eq_true_eq]
  exact List.le_of_lt hxy
mutual
def Ex.rg : Ex → List (List UInt8)
 | .mk o _ m _ _ ks => (if o = 2 ∧ m ≠ [] then [m] else []) ++ exsRg ks
def exsRg : List Ex → List (List UInt8)
 | [] => []
 | x :: r => x.rg ++ exsRg r
end
mutual
def Sm.rg : Sm → List (List UInt8)
 | .mk _ m _ _ _ _ es _ _ th _ _ el => (if m ≠ [] then [m] else []) ++ exsRg es ++ smsRg th ++ smsRg el
def smsRg : List Sm → List (List UInt8)
 | [] => []
 | x :: r => x.rg ++ smsRg r
end
theorem rg_eq (e : Ex) : e.rg = (if e.op = 2 ∧ e.nm ≠ [] then [e.nm] else []) ++ exsRg e.ks := by cases e; rw [Ex.rg]; rfl
theorem sm_rg (s : Sm) : s.rg = (if s.nm ≠ [] then [s.nm] else []) ++ exsRg s.es ++ smsRg s.th ++ smsRg s.el := by cases s; rw [Sm.rg]; rfl
theorem exsRg_take {l : List Ex} {i : Nat} {x : Ex} (h : l[i]? = some x) : exsRg (l.take (i + 1)) = exsRg (l.take i) ++ x.rg := by
 induction l generalizing i with
 | nil => simp at h
 | cons y r ih =>
  cases i with
  | zero => obtain rfl := Option.some.inj h; simp [exsRg]
  | succ i => have := ih (i := i) (by simpa using h); simp only [List.take_succ_cons, exsRg, this, List.append_assoc]
theorem smsRg_take {l : List Sm} {i : Nat} {x : Sm} (h : l[i]? = some x) : smsRg (l.take (i + 1)) = smsRg (l.take i) ++ x.rg := by
 induction l generalizing i with
 | nil => simp at h
 | cons y r ih =>
  cases i with
  | zero => obtain rfl := Option.some.inj h; simp [smsRg]
  | succ i => have := ih (i := i) (by simpa using h); simp only [List.take_succ_cons, smsRg, this, List.append_assoc]
theorem rg_sz (e : Ex) : e.rg.length ≤ e.sz := by
 induction e using Ex.rec_on with
 | h e ih =>
  rw [rg_eq, sz_eq]
  have : ∀ l : List Ex, (∀ x ∈ l, x.rg.length ≤ x.sz) → (exsRg l).length ≤ exsSz l := by
   intro l
   induction l with
   | nil => intro _; exact Nat.le_refl _
   | cons y r ih2 =>
    intro h
    have h1 := h y List.mem_cons_self
    have h2 := ih2 fun x hx => h x (List.mem_cons_of_mem _ hx)
    simp only [exsRg, exsSz, List.length_append]; omega
  have h2 := this e.ks ih
  split <;> simp only [List.length_append, List.length_cons, List.length_nil] <;> omega
theorem exsRg_sz (l : List Ex) : (exsRg l).length ≤ exsSz l := by
 induction l with
 | nil => exact Nat.le_refl _
 | cons y r ih => have := rg_sz y; simp only [exsRg, exsSz, List.length_append]; omega
theorem smsRg_sz (l : List Sm) : (smsRg l).length ≤ smsSz l := by
 induction l using sms_rec with
 | h l ih =>
  induction l with
  | nil => exact Nat.le_refl _
  | cons y r ih2 =>
   have h1 := ih2 fun s hs => ih s (List.mem_cons_of_mem _ hs)
   obtain ⟨h2, h3⟩ := ih y List.mem_cons_self
   have h4 := exsRg_sz y.es
   have h6 := sm_sz y
   simp only [smsRg, smsSz, List.length_append, sm_rg]
   split <;> simp only [List.length_cons, List.length_nil] <;> omega
end Go.Proofs.YtiigncmpbkfhmaaGreatDoor
namespace Go.Proofs.YtiigncmpbkfhmaaGreatDoor
open Go Go.RowKit
theorem en_cantileverref03_regs : Enters Tryz.prog 70 := enters_of Tryz.func70 (by kernel_rfl) rfl
theorem en_cantileverref03_all : Enters Tryz.prog 44 := enters_of Tryz.func44 (by kernel_rfl) rfl
theorem en_cantileverref03_Set : Enters Tryz.prog 43 := enters_of Tryz.func43 (by kernel_rfl) rfl
theorem en_cantileverref03_Regs : Enters Tryz.prog 15 := enters_of Tryz.func15 (by kernel_rfl) rfl
theorem en_cantileverref03_Kinds : Enters Tryz.prog 18 := enters_of Tryz.func18 (by kernel_rfl) rfl
theorem en_cantileverref03_Same : Enters Tryz.prog 8 := enters_of Tryz.func8 (by kernel_rfl) rfl
def GivesT (w0 : World) (L : List (List UInt8)) : Ending → World → Prop := Gives w0 (fun x : Option Addr × Nat => (.slice x.1 L.length x.2 : Value)) (fun x => [.own 9 1 (.slice x.1 L.length x.2) L.length (L.map Str)]) fun _ => True
theorem base_one {p : Prop} [Decidable p] (x : List UInt8) : (if p then [x] else []).length ≤ 1 := by split <;> simp
set_option maxRecDepth 100000 in
set_option maxHeartbeats 4000000 in
theorem ref_regs (e : Ex) : ∀ (w0 : World), ExAt w0 e → e.sz ≤ 1000000 → Calls Tryz.prog 70 #[vE e] w0 (GivesT w0 e.rg) := by
 induction e using Ex.rec_on
 rename_i e ih
 intro w0 he hsz
 have hln := exsSz_len e.ks; have hse := sz_eq e
 refine calls_K (args := [vE e]) (n := 34) (env := [(0, vE e)]) Tryz.func70 rfl rfl rfl ⟨rfl, trivial⟩ fun a w hK hM => ?_
 refine wp_seq ?_
 refine rg2 (by kernel_rfl) ?_
 refine sA hK hM 1 28 (cE e) (fun b => pA b 0) (by kernel_rfl) (by kernel_rfl) fun b1 a w hK hM => ?_
 refine sP hK 2 (.slice none 0 0) (by kernel_rfl) (by kernel_rfl) fun a hK => ?_
 refine rps ?_
 refine wp_seq ?_
 refine rg1 (by kernel_rfl) ?_
 refine sP hK 3 (.slice none 0 0) (by kernel_rfl) (by kernel_rfl) fun a hK => ?_
 refine rps ?_
 refine wp_seq ?_
 refine wp_seq ?_
 replace hM := hM.cons (it := .own 9 1 (.slice none 0 0) 0 []) (World.ownsRow_nil _ _ _ _) (fun _ _ => .inl rfl)
 refine rg8 (by kernel_rfl) ?_
 refine sP hK 5 (pA b1 0) (by kernel_rfl) (by kernel_rfl) fun a hK => ?_
 refine sL hK 6 (.int .i64 e.op) (by kernel_rfl) rfl rfl ((hM.row 1 rfl).cells 0 1) (by kernel_rfl) fun a hK => ?_
 by_cases h2 : (e.op : Int) = 2
 ·refine sP hK 7 (.bool true) (by kernel_rfl) (oB (b := (decide ((e.op : Int) = 2))) (by kernel_rfl) (decide_eq_true h2)) fun a hK => ?_
  refine sM hK 8 7 (by kernel_rfl) (.inl rfl) rfl fun a hK => ?_
  refine sP hK 9 (pA b1 2) (by kernel_rfl) (by kernel_rfl) fun a hK => ?_
  refine sL hK 10 (Str e.nm) (by kernel_rfl) rfl rfl ((hM.row 1 rfl).cells 2 1) (by kernel_rfl) fun a hK => ?_
  rcases Bool.eq_false_or_eq_true (!(decide (e.nm = []))) with h3 | h3
  ·refine sP hK 11 (.bool true) (by kernel_rfl) (oB (b := (!(decide (e.nm = [])))) (run_neS rfl rfl rfl) h3) fun a hK => ?_
   refine sP hK 12 (.bool true) (by kernel_rfl) (by kernel_rfl) fun a hK => ?_
   refine rps ?_
   refine wp_cond_true (hK.get rfl) ?_
   refine rg6 (by kernel_rfl) ?_
   refine sM hK 13 3 (by kernel_rfl) (.inl rfl) rfl fun a hK => ?_
   refine sP hK 14 (pA b1 2) (by kernel_rfl) (by kernel_rfl) fun a hK => ?_
   refine sL hK 15 (Str e.nm) (by kernel_rfl) rfl rfl ((hM.row 1 rfl).cells 2 1) (by kernel_rfl) fun a hK => ?_
   refine sA hK hM 16 9 [Str e.nm] (fun b => .slice (some ⟨b, 0, none⟩) 1 1) (by kernel_rfl) (by kernel_rfl) fun b4 a w hK hM => ?_
   refine stepAppendS hK hM 17 1 (m := 1) (news := [Str e.nm]) Tryz.underlying36 elem_str (by kernel_rfl) rfl rfl rfl rfl (row_src (hM.row 0 rfl)) rfl rfl (by omega) ?_
   intro v5 a w hK hM
   replace hM := hM.to ([.row b4 9 [Str e.nm], .own 9 1 v5 (([e.nm] : List (List UInt8))).length ((([e.nm] : List (List UInt8))).map Str), .row b1 28 (cE e)]) (by rw [show (([e.nm] : List (List UInt8))).length = (0 + 1) by (simp <;> omega), show ((([e.nm] : List (List UInt8))).map Str) = ([] ++ [Str e.nm]) by simp [List.map_drop, List.map_take]]; rfl)
   obtain ⟨A6, c7, rfl⟩ := own_is (f := Str) (l := ([e.nm] : List (List UInt8))) (hM.own 1 rfl)
   refine sM hK 3 17 (by kernel_rfl) (.inr rfl) rfl fun a hK => ?_
   refine rps ?_
   refine wp_seq ?_
   refine wp_seq ?_
   refine rg1 (by kernel_rfl) ?_
   refine sP hK 4 (.int .i64 0) (by kernel_rfl) (by kernel_rfl) fun a hK => ?_
   refine rps ?_
   refine wp_block ?_
   have hL9 : ([e.nm] : List (List UInt8)) = ((if e.op = 2 ∧ e.nm ≠ [] then [e.nm] else []) ++ exsRg (e.ks.take 0)) := (by have g0 := (decide_eq_true h2); have g1 := h3; simp only [Bool.not_eq_true', decide_eq_true_eq, decide_eq_false_iff_not, Bool.not_eq_false'] at g0 g1; simp [exsRg, g0, g1])
   rw [hL9] at hM; try rw [hL9] at hK
   clear hL9
   replace hM := hM.to ([.row b4 9 [Str e.nm], .own 9 1 (.slice A6 (((if e.op = 2 ∧ e.nm ≠ [] then [e.nm] else []) ++ exsRg (e.ks.take 0))).length c7) (((if e.op = 2 ∧ e.nm ≠ [] then [e.nm] else []) ++ exsRg (e.ks.take 0))).length ((((if e.op = 2 ∧ e.nm ≠ [] then [e.nm] else []) ++ exsRg (e.ks.take 0))).map Str), .row b1 28 (cE e)]) (by kernel_rfl)
   replace hM := (hM.order [[.row b4 9 [Str e.nm]], [.own 9 1 (.slice A6 (((if e.op = 2 ∧ e.nm ≠ [] then [e.nm] else []) ++ exsRg (e.ks.take 0))).length c7) (((if e.op = 2 ∧ e.nm ≠ [] then [e.nm] else []) ++ exsRg (e.ks.take 0))).length ((((if e.op = 2 ∧ e.nm ≠ [] then [e.nm] else []) ++ exsRg (e.ks.take 0))).map Str)], [.row b1 28 (cE e)]] [1, 0, 2] 3 rfl (by simp) (by decide) ([.own 9 1 (.slice A6 (((if e.op = 2 ∧ e.nm ≠ [] then [e.nm] else []) ++ exsRg (e.ks.take 0))).length c7) (((if e.op = 2 ∧ e.nm ≠ [] then [e.nm] else []) ++ exsRg (e.ks.take 0))).length ((((if e.op = 2 ∧ e.nm ≠ [] then [e.nm] else []) ++ exsRg (e.ks.take 0))).map Str), .row b4 9 [Str e.nm], .row b1 28 (cE e)]) (by simp))
   replace hM := hM.to ([.own 9 1 (.slice A6 (((if e.op = 2 ∧ e.nm ≠ [] then [e.nm] else []) ++ exsRg (e.ks.take 0))).length c7) (((if e.op = 2 ∧ e.nm ≠ [] then [e.nm] else []) ++ exsRg (e.ks.take 0))).length ((((if e.op = 2 ∧ e.nm ≠ [] then [e.nm] else []) ++ exsRg (e.ks.take 0))).map Str), .row b4 9 [Str e.nm], .row b1 28 (cE e)]) (by kernel_rfl)
   refine wLX (fun x : Nat × (Option Addr) × Nat => [(12, .bool true), (2, .slice none 0 0), (1, pA b1 0), (0, vE e), (4, .int .i64 ((x.1 : Nat) : Int)), (3, .slice x.2.1 (((if e.op = 2 ∧ e.nm ≠ [] then [e.nm] else []) ++ exsRg (e.ks.take x.1))).length x.2.2)]) (fun x : Nat × (Option Addr) × Nat => [.own 9 1 (.slice x.2.1 (((if e.op = 2 ∧ e.nm ≠ [] then [e.nm] else []) ++ exsRg (e.ks.take x.1))).length x.2.2) (((if e.op = 2 ∧ e.nm ≠ [] then [e.nm] else []) ++ exsRg (e.ks.take x.1))).length ((((if e.op = 2 ∧ e.nm ≠ [] then [e.nm] else []) ++ exsRg (e.ks.take x.1))).map Str), .row b4 9 [Str e.nm], .row b1 28 (cE e)]) (fun x : Nat × (Option Addr) × Nat => x.1 ≤ e.ks.length) (fun x : Nat × (Option Addr) × Nat => e.ks.length - x.1) (0, A6, c7) (hK.sub ⟨rfl, rfl, rfl, rfl, rfl, rfl, trivial⟩) hM (Nat.zero_le _) ?_
   rintro ⟨i, A1, c1⟩ a w hK hM hR
   replace hK : Knows a 34 [(12, .bool true), (2, .slice none 0 0), (1, pA b1 0), (0, vE e), (4, vN i), (3, .slice A1 (((if e.op = 2 ∧ e.nm ≠ [] then [e.nm] else []) ++ exsRg (e.ks.take i))).length c1)] := hK
   replace hM : Mem w0 w [.own 9 1 (.slice A1 (((if e.op = 2 ∧ e.nm ≠ [] then [e.nm] else []) ++ exsRg (e.ks.take i))).length c1) (((if e.op = 2 ∧ e.nm ≠ [] then [e.nm] else []) ++ exsRg (e.ks.take i))).length ((((if e.op = 2 ∧ e.nm ≠ [] then [e.nm] else []) ++ exsRg (e.ks.take i))).map Str), .row b4 9 [Str e.nm], .row b1 28 (cE e)] := hM
   replace hR : i ≤ e.ks.length := hR
   refine wp_seq ?_
   refine wp_seq ?_
   refine rg5 (by kernel_rfl) ?_
   refine sM hK 18 4 (by kernel_rfl) (.inl rfl) rfl fun a hK => ?_
   refine sP hK 19 (pA b1 3) (by kernel_rfl) (by kernel_rfl) fun a hK => ?_
   refine sL hK 20 (.slice e.A e.ks.length e.c) (by kernel_rfl) rfl rfl ((hM.row 2 rfl).cells 3 1) (by kernel_rfl) fun a hK => ?_
   refine sP hK 21 (.int .i64 ((e.ks.length : Nat) : Int)) (by kernel_rfl) (by kernel_rfl) fun a hK => ?_
   by_cases h8 : (((i : Nat) : Int) : Int) < ((e.ks.length : Nat) : Int)
   ·refine sP hK 22 (.bool true) (by kernel_rfl) (oB (b := (decide ((((i : Nat) : Int) : Int) < ((e.ks.length : Nat) : Int)))) (by kernel_rfl) (decide_eq_true h8)) fun a hK => ?_
    refine rps ?_
    refine wp_cond_true (hK.get rfl) ?_
    refine wp_skip ?_
    refine wp_seq ?_
    refine wp_block ?_
    refine rg9 (by kernel_rfl) ?_
    refine sM hK 25 3 (by kernel_rfl) (.inl rfl) rfl fun a hK => ?_
    refine sP hK 26 (pA b1 3) (by kernel_rfl) (by kernel_rfl) fun a hK => ?_
    refine sL hK 27 (.slice e.A e.ks.length e.c) (by kernel_rfl) rfl rfl ((hM.row 2 rfl).cells 3 1) (by kernel_rfl) fun a hK => ?_
    refine sM hK 28 4 (by kernel_rfl) (.inl rfl) rfl fun a hK => ?_
    obtain ⟨t9, ht9⟩ : ∃ t, e.ks[(i : Nat)]? = some t := ⟨_, List.getElem?_eq_getElem (by omega)⟩
    obtain ⟨⟨at9, At9, ct9⟩, et9⟩ := he.kids _ _ ht9; have nt9 := et9.len
    refine sP hK 29 (.pointer (some (at9.add (i * 4)))) (by kernel_rfl) (rX (k := i) (s := 4) rfl rfl At9 rfl Tryz.underlying26 (by kernel_rfl) (by omega)) fun a hK => ?_
    refine sL hK 30 (vE t9) (by kernel_rfl) rfl rfl ((ct9.on hM.below)) (by kernel_rfl) fun a hK => ?_
    refine sC hK hM 31 #[vE t9] (by kernel_rfl) (rC en_cantileverref03_regs rfl rfl (by kernel_rfl)) (ih t9 (List.mem_of_getElem? ht9) _ (et9.on hM.below) (by have h8 := exsSz_mem (List.mem_of_getElem? ht9); have h9 := sz_eq e; omega)) ?_
    rintro ⟨A10, c11⟩ a w - hK hM
    refine stepAppendS hK hM 32 1 (m := (t9.rg).length) (news := ((t9.rg).map Str)) Tryz.underlying36 elem_str (by kernel_rfl) rfl rfl rfl rfl (own_src (hM.own 0 rfl)) (by simp) (all_one (fun _ => rfl) _) (by have h1 := exsRg_sz (e.ks.take i); have h2 := exsSz_le (l := e.ks) (i := i); have h3 := rg_sz t9; have h4 := exsSz_mem (List.mem_of_getElem? ht9); have h5 := base_one (p := e.op = 2 ∧ e.nm ≠ []) e.nm; have h6 := sz_eq e; simp only [List.length_append]; omega) ?_
    intro v13 a w hK hM
    replace hM := hM.to ([.own 9 1 (.slice A10 (t9.rg).length c11) (t9.rg).length ((t9.rg).map Str), .own 9 1 v13 ((((if e.op = 2 ∧ e.nm ≠ [] then [e.nm] else []) ++ exsRg (e.ks.take i)) ++ t9.rg)).length (((((if e.op = 2 ∧ e.nm ≠ [] then [e.nm] else []) ++ exsRg (e.ks.take i)) ++ t9.rg)).map Str), .row b4 9 [Str e.nm], .row b1 28 (cE e)]) (by rw [show ((((if e.op = 2 ∧ e.nm ≠ [] then [e.nm] else []) ++ exsRg (e.ks.take i)) ++ t9.rg)).length = ((((if e.op = 2 ∧ e.nm ≠ [] then [e.nm] else []) ++ exsRg (e.ks.take i))).length + (t9.rg).length) by (simp <;> omega), show (((((if e.op = 2 ∧ e.nm ≠ [] then [e.nm] else []) ++ exsRg (e.ks.take i)) ++ t9.rg)).map Str) = (((((if e.op = 2 ∧ e.nm ≠ [] then [e.nm] else []) ++ exsRg (e.ks.take i))).map Str) ++ ((t9.rg).map Str)) by simp [List.map_drop, List.map_take]]; rfl)
    obtain ⟨A14, c15, rfl⟩ := own_is (f := Str) (l := (((if e.op = 2 ∧ e.nm ≠ [] then [e.nm] else []) ++ exsRg (e.ks.take i)) ++ t9.rg)) (hM.own 1 rfl)
    refine sM hK 3 32 (by kernel_rfl) (.inr rfl) rfl fun a hK => ?_
    refine rps ?_
    refine rg3 (by kernel_rfl) ?_
    refine sM hK 23 4 (by kernel_rfl) (.inl rfl) rfl fun a hK => ?_
    refine sP hK 24 (.int .i64 (((i + 1) : Nat) : Int)) (by kernel_rfl) (run_addN (i := i) (j := 1) rfl rfl rfl (by omega)) fun a hK => ?_
    refine sM hK 4 24 (by kernel_rfl) (.inr rfl) rfl fun a hK => ?_
    refine rps ?_
    have hL9 : (((if e.op = 2 ∧ e.nm ≠ [] then [e.nm] else []) ++ exsRg (e.ks.take i)) ++ t9.rg) = ((if e.op = 2 ∧ e.nm ≠ [] then [e.nm] else []) ++ exsRg (e.ks.take (i + 1))) := (by rw [exsRg_take ht9, List.append_assoc])
    rw [hL9] at hM; try rw [hL9] at hK
    clear hL9
    replace hM := hM.to ([.own 9 1 (.slice A10 (t9.rg).length c11) (t9.rg).length ((t9.rg).map Str), .own 9 1 (.slice A14 (((if e.op = 2 ∧ e.nm ≠ [] then [e.nm] else []) ++ exsRg (e.ks.take (i + 1)))).length c15) (((if e.op = 2 ∧ e.nm ≠ [] then [e.nm] else []) ++ exsRg (e.ks.take (i + 1)))).length ((((if e.op = 2 ∧ e.nm ≠ [] then [e.nm] else []) ++ exsRg (e.ks.take (i + 1)))).map Str), .row b4 9 [Str e.nm], .row b1 28 (cE e)]) (by kernel_rfl)
    replace hM := hM.drop 1
    replace hM := hM.to ([.own 9 1 (.slice A14 (((if e.op = 2 ∧ e.nm ≠ [] then [e.nm] else []) ++ exsRg (e.ks.take (i + 1)))).length c15) (((if e.op = 2 ∧ e.nm ≠ [] then [e.nm] else []) ++ exsRg (e.ks.take (i + 1)))).length ((((if e.op = 2 ∧ e.nm ≠ [] then [e.nm] else []) ++ exsRg (e.ks.take (i + 1)))).map Str), .row b4 9 [Str e.nm], .row b1 28 (cE e)]) (by kernel_rfl)
    have hRn : (i + 1) ≤ e.ks.length := (by omega)
    have hmn : e.ks.length - (i + 1) < e.ks.length - i := by omega
    exact ⟨(i + 1, A14, c15), hK.sub ⟨rfl, rfl, rfl, rfl, rfl, rfl, trivial⟩, hM, hRn, hmn⟩
   ·refine sP hK 22 (.bool false) (by kernel_rfl) (oB (b := (decide ((((i : Nat) : Int) : Int) < ((e.ks.length : Nat) : Int)))) (by kernel_rfl) (decide_eq_false h8)) fun a hK => ?_
    refine rps ?_
    refine wp_cond_false (hK.get rfl) ?_
    refine wp_exit (exit_then (exit_then (exit_here 0 ?_)))
    refine wp_seq ?_
    have hL9 : ((if e.op = 2 ∧ e.nm ≠ [] then [e.nm] else []) ++ exsRg (e.ks.take i)) = e.rg := (by rw [rg_eq, List.take_of_length_le (by omega)])
    rw [hL9] at hM; try rw [hL9] at hK
    clear hL9
    replace hM := hM.to ([.own 9 1 (.slice A1 (e.rg).length c1) (e.rg).length ((e.rg).map Str), .row b4 9 [Str e.nm], .row b1 28 (cE e)]) (by kernel_rfl)
    replace hM := (hM.order [[.own 9 1 (.slice A1 (e.rg).length c1) (e.rg).length ((e.rg).map Str)], [.row b4 9 [Str e.nm]], [.row b1 28 (cE e)]] [1, 2, 0] 3 rfl (by simp) (by decide) ([.row b4 9 [Str e.nm], .row b1 28 (cE e), .own 9 1 (.slice A1 (e.rg).length c1) (e.rg).length ((e.rg).map Str)]) (by simp)).drop 2
    replace hM := hM.to ([.own 9 1 (.slice A1 (e.rg).length c1) (e.rg).length ((e.rg).map Str)]) (by kernel_rfl)
    refine rg2 (by kernel_rfl) ?_
    refine sM hK 33 3 (by kernel_rfl) (.inl rfl) rfl fun a hK => ?_
    refine sM hK 2 33 (by kernel_rfl) (.inr rfl) rfl fun a hK => ?_
    refine rps ?_
    refine wp_ret ?_
    exact ret_t hK rfl (u := (.slice A1 (e.rg).length c1)) rfl (⟨(A1, c1), rfl, hM, trivial⟩)
  ·refine sP hK 11 (.bool false) (by kernel_rfl) (oB (b := (!(decide (e.nm = [])))) (run_neS rfl rfl rfl) h3) fun a hK => ?_
   refine sP hK 12 (.bool false) (by kernel_rfl) (by kernel_rfl) fun a hK => ?_
   refine rps ?_
   refine wp_cond_false (hK.get rfl) ?_
   refine wp_skip ?_
   refine wp_seq ?_
   refine wp_seq ?_
   refine rg1 (by kernel_rfl) ?_
   refine sP hK 4 (.int .i64 0) (by kernel_rfl) (by kernel_rfl) fun a hK => ?_
   refine rps ?_
   refine wp_block ?_
   have hL9 : ([] : List (List UInt8)) = ((if e.op = 2 ∧ e.nm ≠ [] then [e.nm] else []) ++ exsRg (e.ks.take 0)) := (by have g0 := (decide_eq_true h2); have g1 := h3; simp only [Bool.not_eq_true', decide_eq_true_eq, decide_eq_false_iff_not, Bool.not_eq_false'] at g0 g1; simp [exsRg, g0, g1])
   replace hM := hM.to ([.own 9 1 (.slice none (((if e.op = 2 ∧ e.nm ≠ [] then [e.nm] else []) ++ exsRg (e.ks.take 0))).length 0) (((if e.op = 2 ∧ e.nm ≠ [] then [e.nm] else []) ++ exsRg (e.ks.take 0))).length ((((if e.op = 2 ∧ e.nm ≠ [] then [e.nm] else []) ++ exsRg (e.ks.take 0))).map Str), .row b1 28 (cE e)]) (by rw [← hL9]; rfl)
   replace hK : Knows a 34 [(4, .int .i64 0), (12, .bool false), (3, .slice none (((if e.op = 2 ∧ e.nm ≠ [] then [e.nm] else []) ++ exsRg (e.ks.take 0))).length 0), (2, .slice none 0 0), (1, pA b1 0), (0, vE e)] := by rw [← hL9]; exact hK.sub ⟨rfl, rfl, rfl, rfl, rfl, rfl, trivial⟩
   clear hL9
   replace hM := hM
   replace hM := hM.to ([.own 9 1 (.slice none (((if e.op = 2 ∧ e.nm ≠ [] then [e.nm] else []) ++ exsRg (e.ks.take 0))).length 0) (((if e.op = 2 ∧ e.nm ≠ [] then [e.nm] else []) ++ exsRg (e.ks.take 0))).length ((((if e.op = 2 ∧ e.nm ≠ [] then [e.nm] else []) ++ exsRg (e.ks.take 0))).map Str), .row b1 28 (cE e)]) (by kernel_rfl)
   refine wLX (fun x : Nat × (Option Addr) × Nat => [(12, .bool false), (2, .slice none 0 0), (1, pA b1 0), (0, vE e), (4, .int .i64 ((x.1 : Nat) : Int)), (3, .slice x.2.1 (((if e.op = 2 ∧ e.nm ≠ [] then [e.nm] else []) ++ exsRg (e.ks.take x.1))).length x.2.2)]) (fun x : Nat × (Option Addr) × Nat => [.own 9 1 (.slice x.2.1 (((if e.op = 2 ∧ e.nm ≠ [] then [e.nm] else []) ++ exsRg (e.ks.take x.1))).length x.2.2) (((if e.op = 2 ∧ e.nm ≠ [] then [e.nm] else []) ++ exsRg (e.ks.take x.1))).length ((((if e.op = 2 ∧ e.nm ≠ [] then [e.nm] else []) ++ exsRg (e.ks.take x.1))).map Str), .row b1 28 (cE e)]) (fun x : Nat × (Option Addr) × Nat => x.1 ≤ e.ks.length) (fun x : Nat × (Option Addr) × Nat => e.ks.length - x.1) (0, none, 0) (hK.sub ⟨rfl, rfl, rfl, rfl, rfl, rfl, trivial⟩) hM (Nat.zero_le _) ?_
   rintro ⟨i, A1, c1⟩ a w hK hM hR
   replace hK : Knows a 34 [(12, .bool false), (2, .slice none 0 0), (1, pA b1 0), (0, vE e), (4, vN i), (3, .slice A1 (((if e.op = 2 ∧ e.nm ≠ [] then [e.nm] else []) ++ exsRg (e.ks.take i))).length c1)] := hK
   replace hM : Mem w0 w [.own 9 1 (.slice A1 (((if e.op = 2 ∧ e.nm ≠ [] then [e.nm] else []) ++ exsRg (e.ks.take i))).length c1) (((if e.op = 2 ∧ e.nm ≠ [] then [e.nm] else []) ++ exsRg (e.ks.take i))).length ((((if e.op = 2 ∧ e.nm ≠ [] then [e.nm] else []) ++ exsRg (e.ks.take i))).map Str), .row b1 28 (cE e)] := hM
   replace hR : i ≤ e.ks.length := hR
   refine wp_seq ?_
   refine wp_seq ?_
   refine rg5 (by kernel_rfl) ?_
   refine sM hK 18 4 (by kernel_rfl) (.inl rfl) rfl fun a hK => ?_
   refine sP hK 19 (pA b1 3) (by kernel_rfl) (by kernel_rfl) fun a hK => ?_
   refine sL hK 20 (.slice e.A e.ks.length e.c) (by kernel_rfl) rfl rfl ((hM.row 1 rfl).cells 3 1) (by kernel_rfl) fun a hK => ?_
   refine sP hK 21 (.int .i64 ((e.ks.length : Nat) : Int)) (by kernel_rfl) (by kernel_rfl) fun a hK => ?_
   by_cases h16 : (((i : Nat) : Int) : Int) < ((e.ks.length : Nat) : Int)
   ·refine sP hK 22 (.bool true) (by kernel_rfl) (oB (b := (decide ((((i : Nat) : Int) : Int) < ((e.ks.length : Nat) : Int)))) (by kernel_rfl) (decide_eq_true h16)) fun a hK => ?_
    refine rps ?_
    refine wp_cond_true (hK.get rfl) ?_
    refine wp_skip ?_
    refine wp_seq ?_
    refine wp_block ?_
    refine rg9 (by kernel_rfl) ?_
    refine sM hK 25 3 (by kernel_rfl) (.inl rfl) rfl fun a hK => ?_
    refine sP hK 26 (pA b1 3) (by kernel_rfl) (by kernel_rfl) fun a hK => ?_
    refine sL hK 27 (.slice e.A e.ks.length e.c) (by kernel_rfl) rfl rfl ((hM.row 1 rfl).cells 3 1) (by kernel_rfl) fun a hK => ?_
    refine sM hK 28 4 (by kernel_rfl) (.inl rfl) rfl fun a hK => ?_
    obtain ⟨t17, ht17⟩ : ∃ t, e.ks[(i : Nat)]? = some t := ⟨_, List.getElem?_eq_getElem (by omega)⟩
    obtain ⟨⟨at17, At17, ct17⟩, et17⟩ := he.kids _ _ ht17; have nt17 := et17.len
    refine sP hK 29 (.pointer (some (at17.add (i * 4)))) (by kernel_rfl) (rX (k := i) (s := 4) rfl rfl At17 rfl Tryz.underlying26 (by kernel_rfl) (by omega)) fun a hK => ?_
    refine sL hK 30 (vE t17) (by kernel_rfl) rfl rfl ((ct17.on hM.below)) (by kernel_rfl) fun a hK => ?_
    refine sC hK hM 31 #[vE t17] (by kernel_rfl) (rC en_cantileverref03_regs rfl rfl (by kernel_rfl)) (ih t17 (List.mem_of_getElem? ht17) _ (et17.on hM.below) (by have h8 := exsSz_mem (List.mem_of_getElem? ht17); have h9 := sz_eq e; omega)) ?_
    rintro ⟨A18, c19⟩ a w - hK hM
    refine stepAppendS hK hM 32 1 (m := (t17.rg).length) (news := ((t17.rg).map Str)) Tryz.underlying36 elem_str (by kernel_rfl) rfl rfl rfl rfl (own_src (hM.own 0 rfl)) (by simp) (all_one (fun _ => rfl) _) (by have h1 := exsRg_sz (e.ks.take i); have h2 := exsSz_le (l := e.ks) (i := i); have h3 := rg_sz t17; have h4 := exsSz_mem (List.mem_of_getElem? ht17); have h5 := base_one (p := e.op = 2 ∧ e.nm ≠ []) e.nm; have h6 := sz_eq e; simp only [List.length_append]; omega) ?_
    intro v21 a w hK hM
    replace hM := hM.to ([.own 9 1 (.slice A18 (t17.rg).length c19) (t17.rg).length ((t17.rg).map Str), .own 9 1 v21 ((((if e.op = 2 ∧ e.nm ≠ [] then [e.nm] else []) ++ exsRg (e.ks.take i)) ++ t17.rg)).length (((((if e.op = 2 ∧ e.nm ≠ [] then [e.nm] else []) ++ exsRg (e.ks.take i)) ++ t17.rg)).map Str), .row b1 28 (cE e)]) (by rw [show ((((if e.op = 2 ∧ e.nm ≠ [] then [e.nm] else []) ++ exsRg (e.ks.take i)) ++ t17.rg)).length = ((((if e.op = 2 ∧ e.nm ≠ [] then [e.nm] else []) ++ exsRg (e.ks.take i))).length + (t17.rg).length) by (simp <;> omega), show (((((if e.op = 2 ∧ e.nm ≠ [] then [e.nm] else []) ++ exsRg (e.ks.take i)) ++ t17.rg)).map Str) = (((((if e.op = 2 ∧ e.nm ≠ [] then [e.nm] else []) ++ exsRg (e.ks.take i))).map Str) ++ ((t17.rg).map Str)) by simp [List.map_drop, List.map_take]]; rfl)
    obtain ⟨A22, c23, rfl⟩ := own_is (f := Str) (l := (((if e.op = 2 ∧ e.nm ≠ [] then [e.nm] else []) ++ exsRg (e.ks.take i)) ++ t17.rg)) (hM.own 1 rfl)
    refine sM hK 3 32 (by kernel_rfl) (.inr rfl) rfl fun a hK => ?_
    refine rps ?_
    refine rg3 (by kernel_rfl) ?_
    refine sM hK 23 4 (by kernel_rfl) (.inl rfl) rfl fun a hK => ?_
    refine sP hK 24 (.int .i64 (((i + 1) : Nat) : Int)) (by kernel_rfl) (run_addN (i := i) (j := 1) rfl rfl rfl (by omega)) fun a hK => ?_
    refine sM hK 4 24 (by kernel_rfl) (.inr rfl) rfl fun a hK => ?_
    refine rps ?_
    have hL9 : (((if e.op = 2 ∧ e.nm ≠ [] then [e.nm] else []) ++ exsRg (e.ks.take i)) ++ t17.rg) = ((if e.op = 2 ∧ e.nm ≠ [] then [e.nm] else []) ++ exsRg (e.ks.take (i + 1))) := (by rw [exsRg_take ht17, List.append_assoc])
    rw [hL9] at hM; try rw [hL9] at hK
    clear hL9
    replace hM := hM.to ([.own 9 1 (.slice A18 (t17.rg).length c19) (t17.rg).length ((t17.rg).map Str), .own 9 1 (.slice A22 (((if e.op = 2 ∧ e.nm ≠ [] then [e.nm] else []) ++ exsRg (e.ks.take (i + 1)))).length c23) (((if e.op = 2 ∧ e.nm ≠ [] then [e.nm] else []) ++ exsRg (e.ks.take (i + 1)))).length ((((if e.op = 2 ∧ e.nm ≠ [] then [e.nm] else []) ++ exsRg (e.ks.take (i + 1)))).map Str), .row b1 28 (cE e)]) (by kernel_rfl)
    replace hM := hM.drop 1
    replace hM := hM.to ([.own 9 1 (.slice A22 (((if e.op = 2 ∧ e.nm ≠ [] then [e.nm] else []) ++ exsRg (e.ks.take (i + 1)))).length c23) (((if e.op = 2 ∧ e.nm ≠ [] then [e.nm] else []) ++ exsRg (e.ks.take (i + 1)))).length ((((if e.op = 2 ∧ e.nm ≠ [] then [e.nm] else []) ++ exsRg (e.ks.take (i + 1)))).map Str), .row b1 28 (cE e)]) (by kernel_rfl)
    have hRn : (i + 1) ≤ e.ks.length := (by omega)
    have hmn : e.ks.length - (i + 1) < e.ks.length - i := by omega
    exact ⟨(i + 1, A22, c23), hK.sub ⟨rfl, rfl, rfl, rfl, rfl, rfl, trivial⟩, hM, hRn, hmn⟩
   ·refine sP hK 22 (.bool false) (by kernel_rfl) (oB (b := (decide ((((i : Nat) : Int) : Int) < ((e.ks.length : Nat) : Int)))) (by kernel_rfl) (decide_eq_false h16)) fun a hK => ?_
    refine rps ?_
    refine wp_cond_false (hK.get rfl) ?_
    refine wp_exit (exit_then (exit_then (exit_here 0 ?_)))
    refine wp_seq ?_
    have hL9 : ((if e.op = 2 ∧ e.nm ≠ [] then [e.nm] else []) ++ exsRg (e.ks.take i)) = e.rg := (by rw [rg_eq, List.take_of_length_le (by omega)])
    rw [hL9] at hM; try rw [hL9] at hK
    clear hL9
    replace hM := hM.to ([.own 9 1 (.slice A1 (e.rg).length c1) (e.rg).length ((e.rg).map Str), .row b1 28 (cE e)]) (by kernel_rfl)
    replace hM := (hM.order [[.own 9 1 (.slice A1 (e.rg).length c1) (e.rg).length ((e.rg).map Str)], [.row b1 28 (cE e)]] [1, 0] 2 rfl (by simp) (by decide) ([.row b1 28 (cE e), .own 9 1 (.slice A1 (e.rg).length c1) (e.rg).length ((e.rg).map Str)]) (by simp)).drop 1
    replace hM := hM.to ([.own 9 1 (.slice A1 (e.rg).length c1) (e.rg).length ((e.rg).map Str)]) (by kernel_rfl)
    refine rg2 (by kernel_rfl) ?_
    refine sM hK 33 3 (by kernel_rfl) (.inl rfl) rfl fun a hK => ?_
    refine sM hK 2 33 (by kernel_rfl) (.inr rfl) rfl fun a hK => ?_
    refine rps ?_
    refine wp_ret ?_
    exact ret_t hK rfl (u := (.slice A1 (e.rg).length c1)) rfl (⟨(A1, c1), rfl, hM, trivial⟩)
 ·refine sP hK 7 (.bool false) (by kernel_rfl) (oB (b := (decide ((e.op : Int) = 2))) (by kernel_rfl) (decide_eq_false h2)) fun a hK => ?_
  refine sM hK 8 7 (by kernel_rfl) (.inl rfl) rfl fun a hK => ?_
  refine sN hK 9 (by kernel_rfl) fun a hK => ?_
  refine sN hK 10 (by kernel_rfl) fun a hK => ?_
  refine sN hK 11 (by kernel_rfl) fun a hK => ?_
  refine sP hK 12 (.bool false) (by kernel_rfl) (by kernel_rfl) fun a hK => ?_
  refine rps ?_
  refine wp_cond_false (hK.get rfl) ?_
  refine wp_skip ?_
  refine wp_seq ?_
  refine wp_seq ?_
  refine rg1 (by kernel_rfl) ?_
  refine sP hK 4 (.int .i64 0) (by kernel_rfl) (by kernel_rfl) fun a hK => ?_
  refine rps ?_
  refine wp_block ?_
  have hL9 : ([] : List (List UInt8)) = ((if e.op = 2 ∧ e.nm ≠ [] then [e.nm] else []) ++ exsRg (e.ks.take 0)) := (by have g0 := (decide_eq_false h2); simp only [Bool.not_eq_true', decide_eq_true_eq, decide_eq_false_iff_not, Bool.not_eq_false'] at g0; simp [exsRg, g0])
  replace hM := hM.to ([.own 9 1 (.slice none (((if e.op = 2 ∧ e.nm ≠ [] then [e.nm] else []) ++ exsRg (e.ks.take 0))).length 0) (((if e.op = 2 ∧ e.nm ≠ [] then [e.nm] else []) ++ exsRg (e.ks.take 0))).length ((((if e.op = 2 ∧ e.nm ≠ [] then [e.nm] else []) ++ exsRg (e.ks.take 0))).map Str), .row b1 28 (cE e)]) (by rw [← hL9]; rfl)
  replace hK : Knows a 34 [(4, .int .i64 0), (12, .bool false), (3, .slice none (((if e.op = 2 ∧ e.nm ≠ [] then [e.nm] else []) ++ exsRg (e.ks.take 0))).length 0), (2, .slice none 0 0), (1, pA b1 0), (0, vE e)] := by rw [← hL9]; exact hK.sub ⟨rfl, rfl, rfl, rfl, rfl, rfl, trivial⟩
  clear hL9
  replace hM := hM
  replace hM := hM.to ([.own 9 1 (.slice none (((if e.op = 2 ∧ e.nm ≠ [] then [e.nm] else []) ++ exsRg (e.ks.take 0))).length 0) (((if e.op = 2 ∧ e.nm ≠ [] then [e.nm] else []) ++ exsRg (e.ks.take 0))).length ((((if e.op = 2 ∧ e.nm ≠ [] then [e.nm] else []) ++ exsRg (e.ks.take 0))).map Str), .row b1 28 (cE e)]) (by kernel_rfl)
  refine wLX (fun x : Nat × (Option Addr) × Nat => [(12, .bool false), (2, .slice none 0 0), (1, pA b1 0), (0, vE e), (4, .int .i64 ((x.1 : Nat) : Int)), (3, .slice x.2.1 (((if e.op = 2 ∧ e.nm ≠ [] then [e.nm] else []) ++ exsRg (e.ks.take x.1))).length x.2.2)]) (fun x : Nat × (Option Addr) × Nat => [.own 9 1 (.slice x.2.1 (((if e.op = 2 ∧ e.nm ≠ [] then [e.nm] else []) ++ exsRg (e.ks.take x.1))).length x.2.2) (((if e.op = 2 ∧ e.nm ≠ [] then [e.nm] else []) ++ exsRg (e.ks.take x.1))).length ((((if e.op = 2 ∧ e.nm ≠ [] then [e.nm] else []) ++ exsRg (e.ks.take x.1))).map Str), .row b1 28 (cE e)]) (fun x : Nat × (Option Addr) × Nat => x.1 ≤ e.ks.length) (fun x : Nat × (Option Addr) × Nat => e.ks.length - x.1) (0, none, 0) (hK.sub ⟨rfl, rfl, rfl, rfl, rfl, rfl, trivial⟩) hM (Nat.zero_le _) ?_
  rintro ⟨i, A1, c1⟩ a w hK hM hR
  replace hK : Knows a 34 [(12, .bool false), (2, .slice none 0 0), (1, pA b1 0), (0, vE e), (4, vN i), (3, .slice A1 (((if e.op = 2 ∧ e.nm ≠ [] then [e.nm] else []) ++ exsRg (e.ks.take i))).length c1)] := hK
  replace hM : Mem w0 w [.own 9 1 (.slice A1 (((if e.op = 2 ∧ e.nm ≠ [] then [e.nm] else []) ++ exsRg (e.ks.take i))).length c1) (((if e.op = 2 ∧ e.nm ≠ [] then [e.nm] else []) ++ exsRg (e.ks.take i))).length ((((if e.op = 2 ∧ e.nm ≠ [] then [e.nm] else []) ++ exsRg (e.ks.take i))).map Str), .row b1 28 (cE e)] := hM
  replace hR : i ≤ e.ks.length := hR
  refine wp_seq ?_
  refine wp_seq ?_
  refine rg5 (by kernel_rfl) ?_
  refine sM hK 18 4 (by kernel_rfl) (.inl rfl) rfl fun a hK => ?_
  refine sP hK 19 (pA b1 3) (by kernel_rfl) (by kernel_rfl) fun a hK => ?_
  refine sL hK 20 (.slice e.A e.ks.length e.c) (by kernel_rfl) rfl rfl ((hM.row 1 rfl).cells 3 1) (by kernel_rfl) fun a hK => ?_
  refine sP hK 21 (.int .i64 ((e.ks.length : Nat) : Int)) (by kernel_rfl) (by kernel_rfl) fun a hK => ?_
  by_cases h24 : (((i : Nat) : Int) : Int) < ((e.ks.length : Nat) : Int)
  ·refine sP hK 22 (.bool true) (by kernel_rfl) (oB (b := (decide ((((i : Nat) : Int) : Int) < ((e.ks.length : Nat) : Int)))) (by kernel_rfl) (decide_eq_true h24)) fun a hK => ?_
   refine rps ?_
   refine wp_cond_true (hK.get rfl) ?_
   refine wp_skip ?_
   refine wp_seq ?_
   refine wp_block ?_
   refine rg9 (by kernel_rfl) ?_
   refine sM hK 25 3 (by kernel_rfl) (.inl rfl) rfl fun a hK => ?_
   refine sP hK 26 (pA b1 3) (by kernel_rfl) (by kernel_rfl) fun a hK => ?_
   refine sL hK 27 (.slice e.A e.ks.length e.c) (by kernel_rfl) rfl rfl ((hM.row 1 rfl).cells 3 1) (by kernel_rfl) fun a hK => ?_
   refine sM hK 28 4 (by kernel_rfl) (.inl rfl) rfl fun a hK => ?_
   obtain ⟨t25, ht25⟩ : ∃ t, e.ks[(i : Nat)]? = some t := ⟨_, List.getElem?_eq_getElem (by omega)⟩
   obtain ⟨⟨at25, At25, ct25⟩, et25⟩ := he.kids _ _ ht25; have nt25 := et25.len
   refine sP hK 29 (.pointer (some (at25.add (i * 4)))) (by kernel_rfl) (rX (k := i) (s := 4) rfl rfl At25 rfl Tryz.underlying26 (by kernel_rfl) (by omega)) fun a hK => ?_
   refine sL hK 30 (vE t25) (by kernel_rfl) rfl rfl ((ct25.on hM.below)) (by kernel_rfl) fun a hK => ?_
   refine sC hK hM 31 #[vE t25] (by kernel_rfl) (rC en_cantileverref03_regs rfl rfl (by kernel_rfl)) (ih t25 (List.mem_of_getElem? ht25) _ (et25.on hM.below) (by have h8 := exsSz_mem (List.mem_of_getElem? ht25); have h9 := sz_eq e; omega)) ?_
   rintro ⟨A26, c27⟩ a w - hK hM
   refine stepAppendS hK hM 32 1 (m := (t25.rg).length) (news := ((t25.rg).map Str)) Tryz.underlying36 elem_str (by kernel_rfl) rfl rfl rfl rfl (own_src (hM.own 0 rfl)) (by simp) (all_one (fun _ => rfl) _) (by have h1 := exsRg_sz (e.ks.take i); have h2 := exsSz_le (l := e.ks) (i := i); have h3 := rg_sz t25; have h4 := exsSz_mem (List.mem_of_getElem? ht25); have h5 := base_one (p := e.op = 2 ∧ e.nm ≠ []) e.nm; have h6 := sz_eq e; simp only [List.length_append]; omega) ?_
   intro v29 a w hK hM
   replace hM := hM.to ([.own 9 1 (.slice A26 (t25.rg).length c27) (t25.rg).length ((t25.rg).map Str), .own 9 1 v29 ((((if e.op = 2 ∧ e.nm ≠ [] then [e.nm] else []) ++ exsRg (e.ks.take i)) ++ t25.rg)).length (((((if e.op = 2 ∧ e.nm ≠ [] then [e.nm] else []) ++ exsRg (e.ks.take i)) ++ t25.rg)).map Str), .row b1 28 (cE e)]) (by rw [show ((((if e.op = 2 ∧ e.nm ≠ [] then [e.nm] else []) ++ exsRg (e.ks.take i)) ++ t25.rg)).length = ((((if e.op = 2 ∧ e.nm ≠ [] then [e.nm] else []) ++ exsRg (e.ks.take i))).length + (t25.rg).length) by (simp <;> omega), show (((((if e.op = 2 ∧ e.nm ≠ [] then [e.nm] else []) ++ exsRg (e.ks.take i)) ++ t25.rg)).map Str) = (((((if e.op = 2 ∧ e.nm ≠ [] then [e.nm] else []) ++ exsRg (e.ks.take i))).map Str) ++ ((t25.rg).map Str)) by simp [List.map_drop, List.map_take]]; rfl)
   obtain ⟨A30, c31, rfl⟩ := own_is (f := Str) (l := (((if e.op = 2 ∧ e.nm ≠ [] then [e.nm] else []) ++ exsRg (e.ks.take i)) ++ t25.rg)) (hM.own 1 rfl)
   refine sM hK 3 32 (by kernel_rfl) (.inr rfl) rfl fun a hK => ?_
   refine rps ?_
   refine rg3 (by kernel_rfl) ?_
   refine sM hK 23 4 (by kernel_rfl) (.inl rfl) rfl fun a hK => ?_
   refine sP hK 24 (.int .i64 (((i + 1) : Nat) : Int)) (by kernel_rfl) (run_addN (i := i) (j := 1) rfl rfl rfl (by omega)) fun a hK => ?_
   refine sM hK 4 24 (by kernel_rfl) (.inr rfl) rfl fun a hK => ?_
   refine rps ?_
   have hL9 : (((if e.op = 2 ∧ e.nm ≠ [] then [e.nm] else []) ++ exsRg (e.ks.take i)) ++ t25.rg) = ((if e.op = 2 ∧ e.nm ≠ [] then [e.nm] else []) ++ exsRg (e.ks.take (i + 1))) := (by rw [exsRg_take ht25, List.append_assoc])
   rw [hL9] at hM; try rw [hL9] at hK
   clear hL9
   replace hM := hM.to ([.own 9 1 (.slice A26 (t25.rg).length c27) (t25.rg).length ((t25.rg).map Str), .own 9 1 (.slice A30 (((if e.op = 2 ∧ e.nm ≠ [] then [e.nm] else []) ++ exsRg (e.ks.take (i + 1)))).length c31) (((if e.op = 2 ∧ e.nm ≠ [] then [e.nm] else []) ++ exsRg (e.ks.take (i + 1)))).length ((((if e.op = 2 ∧ e.nm ≠ [] then [e.nm] else []) ++ exsRg (e.ks.take (i + 1)))).map Str), .row b1 28 (cE e)]) (by kernel_rfl)
   replace hM := hM.drop 1
   replace hM := hM.to ([.own 9 1 (.slice A30 (((if e.op = 2 ∧ e.nm ≠ [] then [e.nm] else []) ++ exsRg (e.ks.take (i + 1)))).length c31) (((if e.op = 2 ∧ e.nm ≠ [] then [e.nm] else []) ++ exsRg (e.ks.take (i + 1)))).length ((((if e.op = 2 ∧ e.nm ≠ [] then [e.nm] else []) ++ exsRg (e.ks.take (i + 1)))).map Str), .row b1 28 (cE e)]) (by kernel_rfl)
   have hRn : (i + 1) ≤ e.ks.length := (by omega)
   have hmn : e.ks.length - (i + 1) < e.ks.length - i := by omega
   exact ⟨(i + 1, A30, c31), hK.sub ⟨rfl, rfl, rfl, rfl, rfl, rfl, trivial⟩, hM, hRn, hmn⟩
  ·refine sP hK 22 (.bool false) (by kernel_rfl) (oB (b := (decide ((((i : Nat) : Int) : Int) < ((e.ks.length : Nat) : Int)))) (by kernel_rfl) (decide_eq_false h24)) fun a hK => ?_
   refine rps ?_
   refine wp_cond_false (hK.get rfl) ?_
   refine wp_exit (exit_then (exit_then (exit_here 0 ?_)))
   refine wp_seq ?_
   have hL9 : ((if e.op = 2 ∧ e.nm ≠ [] then [e.nm] else []) ++ exsRg (e.ks.take i)) = e.rg := (by rw [rg_eq, List.take_of_length_le (by omega)])
   rw [hL9] at hM; try rw [hL9] at hK
   clear hL9
   replace hM := hM.to ([.own 9 1 (.slice A1 (e.rg).length c1) (e.rg).length ((e.rg).map Str), .row b1 28 (cE e)]) (by kernel_rfl)
   replace hM := (hM.order [[.own 9 1 (.slice A1 (e.rg).length c1) (e.rg).length ((e.rg).map Str)], [.row b1 28 (cE e)]] [1, 0] 2 rfl (by simp) (by decide) ([.row b1 28 (cE e), .own 9 1 (.slice A1 (e.rg).length c1) (e.rg).length ((e.rg).map Str)]) (by simp)).drop 1
   replace hM := hM.to ([.own 9 1 (.slice A1 (e.rg).length c1) (e.rg).length ((e.rg).map Str)]) (by kernel_rfl)
   refine rg2 (by kernel_rfl) ?_
   refine sM hK 33 3 (by kernel_rfl) (.inl rfl) rfl fun a hK => ?_
   refine sM hK 2 33 (by kernel_rfl) (.inr rfl) rfl fun a hK => ?_
   refine rps ?_
   refine wp_ret ?_
   exact ret_t hK rfl (u := (.slice A1 (e.rg).length c1)) rfl (⟨(A1, c1), rfl, hM, trivial⟩)
end Go.Proofs.YtiigncmpbkfhmaaGreatDoor
