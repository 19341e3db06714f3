/-
  Package lex: numbers, the token at a text's beginning, Word.
-/
import Derived.Test.YtbcfggdifljacaaDoorLpD
namespace Go.Proofs.YtbcfggdifljacaaDoor
open Go Go.RowKit

theorem inWordB_eq : inWordB = wordB := by
  funext c; unfold inWordB wordB
  rw [Bool.or_assoc]; rfl
def foldD (acc : Nat) (l : List UInt8) : Nat := l.foldl (fun n c => n * 10 + (c.toNat - 48)) acc
abbrev Digs (l : List UInt8) : Prop := ∀ c ∈ l, 48 ≤ c.toNat ∧ c.toNat ≤ 57
theorem foldD_ge : ∀ (l : List UInt8) (acc : Nat), acc * 10 ^ l.length ≤ foldD acc l := by
  intro l
  induction l with
  | nil => intro acc; simp [foldD]
  | cons c l ih =>
    intro acc
    have h := ih (acc * 10 + (c.toNat - 48))
    show acc * 10 ^ (l.length + 1) ≤ foldD (acc * 10 + (c.toNat - 48)) l
    rw [Nat.pow_succ, Nat.mul_comm (10 ^ l.length) 10, ← Nat.mul_assoc]
    exact Nat.le_trans (Nat.mul_le_mul_right _ (Nat.le_add_right _ _)) h
theorem foldD_le (l : List UInt8) (acc : Nat) : acc ≤ foldD acc l := Nat.le_trans (Nat.le_mul_of_pos_right acc (Nat.pow_pos (by decide))) (foldD_ge l acc)
theorem pu_dig : ∀ (l : List UInt8) (acc : Nat), Digs l → acc ≤ 18446744073709551615 → Lib.parseUintM 18446744073709551615 acc l = if foldD acc l ≤ 18446744073709551615 then .ok (foldD acc l) else .range := by
  intro l
  induction l with
  | nil => intro acc _ h; unfold Lib.parseUintM; rw [if_pos (by simpa [foldD] using h)]; rfl
  | cons c l ih =>
    intro acc hd h
    have hc := hd c (by simp)
    have e : foldD acc (c :: l) = foldD (acc * 10 + (c.toNat - 48)) l := rfl
    have hl := foldD_le l (acc * 10 + (c.toNat - 48))
    unfold Lib.parseUintM
    rw [if_pos hc, e]
    split
    · rw [if_neg (by omega)]
    · split
      · rw [if_neg (by omega)]
      · exact ih _ (fun d hd' => hd d (by simp [hd'])) (by omega)
theorem parse_dig {l : List UInt8} (hne : l ≠ []) (hd : Digs l) : (foldD 0 l < 9223372036854775808 ∧ Lib.parseIntB 64 l = .ok ((foldD 0 l : Nat) : Int)) ∨ (9223372036854775808 ≤ foldD 0 l ∧ Lib.parseIntB 64 l = .range) := by
  cases l with
  | nil => exact absurd rfl hne
  | cons c r =>
    have hc := hd c (by simp)
    have hpu := pu_dig (c :: r) 0 hd (by omega)
    have e : Lib.parseUintB 64 (c :: r) = if foldD 0 (c :: r) ≤ 18446744073709551615 then .ok (foldD 0 (c :: r)) else .range := hpu
    unfold Lib.parseIntB
    simp only
    rw [if_neg (by omega), e]
    by_cases h1 : foldD 0 (c :: r) < 9223372036854775808
    · left; refine ⟨h1, ?_⟩
      rw [if_pos (by omega)]
      simp only
      rw [if_neg (by omega), if_neg (by omega), if_neg (by omega)]
    · right; refine ⟨by omega, ?_⟩
      by_cases h2 : foldD 0 (c :: r) ≤ 18446744073709551615
      · rw [if_pos h2]; simp only; rw [if_pos (by omega)]
      · rw [if_neg h2]
theorem numOf_dig {l : List UInt8} (hd : Digs l) (hz : ¬ (1 < l.length ∧ (l.getD 0 0).toNat = 48)) : (numOf l).2 = decide (foldD 0 l < 9223372036854775808) ∧ (foldD 0 l < 9223372036854775808 → (numOf l).1 = ((foldD 0 l : Nat) : Int)) := by
  have et : numTo l l.length = foldD 0 l := by unfold numTo foldD; rw [List.take_length]
  unfold numOf
  by_cases h : 19 < l.length
  · rw [if_pos (by rw [decide_eq_true h, Bool.or_true])]
    have hbig : 9223372036854775808 ≤ foldD 0 l := by
      cases l with
      | nil => simp at h
      | cons c r =>
        have hc := hd c (by simp)
        have h1 : 1 ≤ c.toNat - 48 := by
          have : ¬ c.toNat = 48 := fun e => hz ⟨by simp at h ⊢; omega, by simpa using e⟩
          omega
        have h2 := foldD_ge r (c.toNat - 48)
        have e2 : foldD 0 (c :: r) = foldD (c.toNat - 48) r := by show foldD (0 * 10 + (c.toNat - 48)) r = _; rw [Nat.zero_mul, Nat.zero_add]
        have h3 : 10 ^ 19 ≤ 10 ^ r.length := Nat.pow_le_pow_right (by decide) (by simp at h; omega)
        have h4 : 1 * 10 ^ 19 ≤ (c.toNat - 48) * 10 ^ r.length := Nat.mul_le_mul h1 h3
        rw [e2]; omega
    exact ⟨by rw [decide_eq_false (by omega)], fun h' => absurd h' (by omega)⟩
  · rw [if_neg (by
      rw [decide_eq_false h, Bool.or_false]
      intro e
      rw [Bool.and_eq_true] at e
      exact hz ⟨of_decide_eq_true e.1, by have h48 : (((l.getD 0 0).toNat : Nat) : Int) = 48 := eq_of_beq e.2; omega⟩), et]
    refine ⟨rfl, fun hlt => ?_⟩
    show IntKind.i64.wrap _ = _
    rw [IntKind.wrap_i64]; omega
theorem tw_digs (l : List UInt8) : Digs (l.takeWhile isDigit) := by
  intro c hc
  have := List.all_eq_true.1 (List.all_takeWhile (p := isDigit) (l := l)) c hc
  unfold isDigit at this
  simp at this
  omega
theorem tw_take (p : UInt8 → Bool) (l : List UInt8) : l.take (runL p l) = l.takeWhile p := by
  unfold runL
  conv => lhs; rw [← List.takeWhile_append_dropWhile (p := p) (l := l)]
  rw [List.takeWhile_append_dropWhile]
  exact (List.prefix_iff_eq_take.1 (List.takeWhile_prefix p)).symm
theorem follow_iff (l : List UInt8) : ((l.drop (l.takeWhile isDigit).length).head?.any fun d => isLetter d || (((d.toNat : Nat) : Int) == 95)) = decide ((0 : Int) < ((runL inWordB (l.drop (runL isDigit l)) : Nat) : Int)) := by
  have e : l.drop (runL isDigit l) = l.dropWhile isDigit := by
    unfold runL
    conv => lhs; rw [← List.takeWhile_append_dropWhile (p := isDigit) (l := l)]
    rw [List.takeWhile_append_dropWhile]
    have := List.takeWhile_append_dropWhile (p := isDigit) (l := l)
    conv => lhs; arg 2; rw [← this]
    rw [List.drop_left]
  show ((l.drop (runL isDigit l)).head?.any _) = _
  rw [e]
  unfold runL
  cases h : l.dropWhile isDigit with
  | nil => simp
  | cons d r =>
    have hd : isDigit d = false := by
      have := List.head?_dropWhile_not isDigit l
      rw [h] at this; simpa using this
    rw [List.takeWhile_cons]
    have e2 : inWordB d = (isLetter d || (((d.toNat : Nat) : Int) == 95)) := by unfold inWordB; rw [hd, Bool.or_false]; rfl
    rw [List.head?_cons, Option.any_some, e2]
    cases isLetter d || (((d.toNat : Nat) : Int) == 95) with
    | true => simp
    | false => simp
section
variable {l : List UInt8} {c : UInt8}
theorem get0 (hc : l[0]? = some c) (hd : isDigit c = true) : (l.takeWhile isDigit).getD 0 0 = c ∧ l.takeWhile isDigit ≠ [] := by
  cases l with
  | nil => cases hc
  | cons a r =>
    obtain rfl := Option.some.inj hc
    rw [List.takeWhile_cons, if_pos hd]; exact ⟨rfl, by simp⟩
theorem numAt_zero (hc : l[0]? = some c) (hd : isDigit c = true) (h0 : ((c.toNat : Nat) : Int) = 48) (h1 : (1 : Int) < ((runL isDigit l : Nat) : Int)) : numAt l = none := by
  have h1' : 1 < (l.takeWhile isDigit).length := by have : 1 < runL isDigit l := by omega
                                                    exact this
  unfold numAt numOf
  rw [if_neg]
  rw [if_pos]
  · simp
  · rw [(get0 hc hd).1, decide_eq_true h1']
    simp [h0]
theorem numAt_word (h : (0 : Int) < ((runL inWordB (l.drop (runL isDigit l)) : Nat) : Int)) : numAt l = none := by
  unfold numAt
  rw [follow_iff, decide_eq_true h, if_neg (by simp)]
theorem not_zero (hc : l[0]? = some c) (hd : isDigit c = true) (h : ¬ (((c.toNat : Nat) : Int) = 48) ∨ ¬ ((1 : Int) < ((runL isDigit l : Nat) : Int))) : ¬ (1 < (l.takeWhile isDigit).length ∧ ((l.takeWhile isDigit).getD 0 0).toNat = 48) := by
  rw [(get0 hc hd).1]
  rintro ⟨h1, h2⟩
  rcases h with h | h
  · exact h (by omega)
  · exact h (by have : 1 < runL isDigit l := h1; omega)
theorem numAt_big (hz : ¬ (1 < (l.takeWhile isDigit).length ∧ ((l.takeWhile isDigit).getD 0 0).toNat = 48)) (h : 9223372036854775808 ≤ foldD 0 (l.takeWhile isDigit)) : numAt l = none := by
  unfold numAt
  rw [(numOf_dig (tw_digs l) hz).1, decide_eq_false (by omega), if_neg (by simp)]
theorem numAt_some (hz : ¬ (1 < (l.takeWhile isDigit).length ∧ ((l.takeWhile isDigit).getD 0 0).toNat = 48)) (h : foldD 0 (l.takeWhile isDigit) < 9223372036854775808) (hw : ¬ (0 : Int) < ((runL inWordB (l.drop (runL isDigit l)) : Nat) : Int)) : numAt l = some ((foldD 0 (l.takeWhile isDigit) : Nat) : Int) := by
  unfold numAt
  have hn := numOf_dig (tw_digs l) hz
  rw [hn.1, decide_eq_true h, follow_iff, decide_eq_false hw, if_pos (by simp), hn.2 h]
end
/-- What number answers. -/
def numV (l : List UInt8) : Value := match numAt l with
  | some n => .tuple #[.agg (tokC 3 (l.takeWhile isDigit) n 0).toArray, .bool true]
  | none => .tuple #[.agg (tokC 0 [] 0 0).toArray, .bool false]
set_option maxRecDepth 100000 in
set_option maxHeartbeats 4000000 in
theorem lex_number (l : List UInt8) {c : UInt8} (hc : l[0]? = some c) (hd : isDigit c = true) (w0 : World) (hE : ErrOk w0) (hlen : l.length ≤ 65536) : Calls Tryd.prog 41 #[Str l] w0 (Ret w0 (numV l)) := by
  refine calls_K (args := [Str l]) (n := 44) (env := [(0, Str l)]) Tryd.func41 rfl rfl rfl ⟨rfl, trivial⟩ fun a w hK hM => ?_
  have hr1 := runL_le isDigit l
  refine wp_seq ?_
  refine region_go (lst := [0, 1]) (by kernel_rfl) ?_
  refine stepAlloc hK hM 2 35 [.int .i64 0, Str [], .int .i64 0, .int .i64 0] (fun b => .pointer (some ⟨b, 0, none⟩)) (by kernel_rfl) (by kernel_rfl) fun b1 a w hK hM => ?_
  refine stepP hK 3 (.bool false) (by kernel_rfl) (by kernel_rfl) fun a hK => ?_
  refine region_done hK [(3, .bool false), (2, .pointer (some ⟨b1, 0, none⟩)), (0, Str l)] ⟨rfl, rfl, rfl, trivial⟩ fun a hK => ?_
  refine wp_seq ?_
  refine region_go (lst := [0, 1, 2]) (by kernel_rfl) ?_
  refine stepM hK 9 0 (by kernel_rfl) (.inl rfl) rfl fun a hK => ?_
  refine stepRet hK hM 10 #[Str l, .func (.func 36) #[] #[]] (.int .i64 (((runL isDigit l) : Nat) : Int)) (by kernel_rfl) (run_callE en_lex_run rfl rfl (by kernel_rfl)) (lex_run l (by first | omega | (rw [List.length_drop]; omega) | (rw [List.length_take]; omega) | (rw [List.length_take, List.length_drop]; omega)) _ isDigit en_lex_isDigit lex_isDigit _) fun a w hK hM => ?_
  refine stepM hK 4 10 (by kernel_rfl) (.inr rfl) rfl fun a hK => ?_
  refine region_done hK [(4, .int .i64 (((runL isDigit l) : Nat) : Int)), (3, .bool false), (2, .pointer (some ⟨b1, 0, none⟩)), (0, Str l)] ⟨rfl, rfl, rfl, rfl, trivial⟩ fun a hK => ?_
  refine wp_seq ?_
  refine region_go (lst := [0, 1, 2, 3, 4, 5, 6, 7]) (by kernel_rfl) ?_
  refine stepM hK 11 0 (by kernel_rfl) (.inl rfl) rfl fun a hK => ?_
  refine stepP hK 12 (.int .u8 ((c.toNat : Nat) : Int)) (by kernel_rfl) (run_idxS (k := 0) rfl rfl rfl hc) fun a hK => ?_
  by_cases h2 : (((c.toNat : Nat) : Int) : Int) = 48
  · refine stepP hK 13 (.bool true) (by kernel_rfl) (okBool (b := (decide ((((c.toNat : Nat) : Int) : Int) = 48))) (by kernel_rfl) (decide_eq_true h2)) fun a hK => ?_
    refine stepM hK 14 13 (by kernel_rfl) (.inl rfl) rfl fun a hK => ?_
    refine stepM hK 15 4 (by kernel_rfl) (.inl rfl) rfl fun a hK => ?_
    by_cases h3 : (1 : Int) < (((runL isDigit l) : Nat) : Int)
    · refine stepP hK 16 (.bool true) (by kernel_rfl) (okBool (b := (decide ((1 : Int) < (((runL isDigit l) : Nat) : Int)))) (by kernel_rfl) (decide_eq_true h3)) fun a hK => ?_
      refine stepP hK 17 (.bool true) (by kernel_rfl) (by kernel_rfl) fun a hK => ?_
      refine stepM hK 5 17 (by kernel_rfl) (.inr rfl) rfl fun a hK => ?_
      refine region_done hK [(5, .bool true), (4, .int .i64 (((runL isDigit l) : Nat) : Int)), (3, .bool false), (2, .pointer (some ⟨b1, 0, none⟩)), (0, Str l)] ⟨rfl, rfl, rfl, rfl, rfl, trivial⟩ fun a hK => ?_
      refine wp_seq ?_
      refine wp_seq ?_
      refine region_go (lst := [0, 1, 2, 3, 4, 5, 6, 7]) (by kernel_rfl) ?_
      refine stepM hK 18 5 (by kernel_rfl) (.inl rfl) rfl fun a hK => ?_
      refine stepM hK 19 18 (by kernel_rfl) (.inl rfl) rfl fun a hK => ?_
      refine stepN hK 20 (by kernel_rfl) fun a hK => ?_
      refine stepN hK 21 (by kernel_rfl) fun a hK => ?_
      refine stepN hK 22 (by kernel_rfl) fun a hK => ?_
      refine stepN hK 23 (by kernel_rfl) fun a hK => ?_
      refine stepN hK 24 (by kernel_rfl) fun a hK => ?_
      refine stepP hK 25 (.bool true) (by kernel_rfl) (by kernel_rfl) fun a hK => ?_
      refine region_done hK [(25, .bool true), (5, .bool true), (4, .int .i64 (((runL isDigit l) : Nat) : Int)), (3, .bool false), (2, .pointer (some ⟨b1, 0, none⟩)), (0, Str l)] ⟨rfl, rfl, rfl, rfl, rfl, rfl, trivial⟩ fun a hK => ?_
      refine wp_cond_true (hK.get rfl) ?_
      refine wp_seq ?_
      refine region_go (lst := [0, 1, 2]) (by kernel_rfl) ?_
      refine stepP hK 26 (.agg #[.int .i64 0, Str [], .int .i64 0, .int .i64 0]) (by kernel_rfl) (by kernel_rfl) fun a hK => ?_
      refine stepStore hK hM 0 [.int .i64 0, Str [], .int .i64 0, .int .i64 0] (by kernel_rfl) rfl rfl rfl rfl (by kernel_rfl) fun w hM => ?_
      replace hM := hM.to [.row b1 35 [.int .i64 0, Str [], .int .i64 0, .int .i64 0]] (by kernel_rfl)
      refine stepP hK 3 (.bool false) (by kernel_rfl) (by kernel_rfl) fun a hK => ?_
      refine region_done hK [(3, .bool false), (25, .bool true), (5, .bool true), (4, .int .i64 (((runL isDigit l) : Nat) : Int)), (2, .pointer (some ⟨b1, 0, none⟩)), (0, Str l)] ⟨rfl, rfl, rfl, rfl, rfl, rfl, trivial⟩ fun a hK => ?_
      refine wp_ret ?_
      exact ret_ct hK rfl rfl ((hM.row 0 rfl).cells 0 4) (u := (.agg #[.int .i64 0, Str [], .int .i64 0, .int .i64 0])) (by kernel_rfl) (v := (.bool false)) rfl (⟨by unfold numV; rw [numAt_zero hc hd h2 h3]; rfl, hM.below⟩)
    · refine stepP hK 16 (.bool false) (by kernel_rfl) (okBool (b := (decide ((1 : Int) < (((runL isDigit l) : Nat) : Int)))) (by kernel_rfl) (decide_eq_false h3)) fun a hK => ?_
      refine stepP hK 17 (.bool false) (by kernel_rfl) (by kernel_rfl) fun a hK => ?_
      refine stepM hK 5 17 (by kernel_rfl) (.inr rfl) rfl fun a hK => ?_
      refine region_done hK [(5, .bool false), (4, .int .i64 (((runL isDigit l) : Nat) : Int)), (3, .bool false), (2, .pointer (some ⟨b1, 0, none⟩)), (0, Str l)] ⟨rfl, rfl, rfl, rfl, rfl, trivial⟩ fun a hK => ?_
      refine wp_seq ?_
      refine wp_seq ?_
      refine region_go (lst := [0, 1, 2, 3, 4, 5, 6, 7]) (by kernel_rfl) ?_
      refine stepM hK 18 5 (by kernel_rfl) (.inl rfl) rfl fun a hK => ?_
      refine stepM hK 19 18 (by kernel_rfl) (.inl rfl) rfl fun a hK => ?_
      refine stepM hK 20 0 (by kernel_rfl) (.inl rfl) rfl fun a hK => ?_
      refine stepM hK 21 4 (by kernel_rfl) (.inl rfl) rfl fun a hK => ?_
      refine stepP hK 22 (Str (l.drop (runL isDigit l))) (by kernel_rfl) (run_slcLo (i := (runL isDigit l)) rfl rfl rfl (by omega)) fun a hK => ?_
      refine stepRet hK hM 23 #[Str (l.drop (runL isDigit l)), .func (.func 21) #[] #[]] (.int .i64 (((runL inWordB (l.drop (runL isDigit l))) : Nat) : Int)) (by kernel_rfl) (run_callE en_lex_run rfl rfl (by kernel_rfl)) (lex_run (l.drop (runL isDigit l)) (by first | omega | (rw [List.length_drop]; omega) | (rw [List.length_take]; omega) | (rw [List.length_take, List.length_drop]; omega)) _ inWordB en_lex_inWord lex_inWord _) fun a w hK hM => ?_
      by_cases h4 : (0 : Int) < (((runL inWordB (l.drop (runL isDigit l))) : Nat) : Int)
      · refine stepP hK 24 (.bool true) (by kernel_rfl) (okBool (b := (decide ((0 : Int) < (((runL inWordB (l.drop (runL isDigit l))) : Nat) : Int)))) (by kernel_rfl) (decide_eq_true h4)) fun a hK => ?_
        refine stepP hK 25 (.bool true) (by kernel_rfl) (by kernel_rfl) fun a hK => ?_
        refine region_done hK [(25, .bool true), (5, .bool false), (4, .int .i64 (((runL isDigit l) : Nat) : Int)), (3, .bool false), (2, .pointer (some ⟨b1, 0, none⟩)), (0, Str l)] ⟨rfl, rfl, rfl, rfl, rfl, rfl, trivial⟩ fun a hK => ?_
        refine wp_cond_true (hK.get rfl) ?_
        refine wp_seq ?_
        refine region_go (lst := [0, 1, 2]) (by kernel_rfl) ?_
        refine stepP hK 26 (.agg #[.int .i64 0, Str [], .int .i64 0, .int .i64 0]) (by kernel_rfl) (by kernel_rfl) fun a hK => ?_
        refine stepStore hK hM 0 [.int .i64 0, Str [], .int .i64 0, .int .i64 0] (by kernel_rfl) rfl rfl rfl rfl (by kernel_rfl) fun w hM => ?_
        replace hM := hM.to [.row b1 35 [.int .i64 0, Str [], .int .i64 0, .int .i64 0]] (by kernel_rfl)
        refine stepP hK 3 (.bool false) (by kernel_rfl) (by kernel_rfl) fun a hK => ?_
        refine region_done hK [(3, .bool false), (25, .bool true), (5, .bool false), (4, .int .i64 (((runL isDigit l) : Nat) : Int)), (2, .pointer (some ⟨b1, 0, none⟩)), (0, Str l)] ⟨rfl, rfl, rfl, rfl, rfl, rfl, trivial⟩ fun a hK => ?_
        refine wp_ret ?_
        exact ret_ct hK rfl rfl ((hM.row 0 rfl).cells 0 4) (u := (.agg #[.int .i64 0, Str [], .int .i64 0, .int .i64 0])) (by kernel_rfl) (v := (.bool false)) rfl (⟨by unfold numV; rw [numAt_word h4]; rfl, hM.below⟩)
      · refine stepP hK 24 (.bool false) (by kernel_rfl) (okBool (b := (decide ((0 : Int) < (((runL inWordB (l.drop (runL isDigit l))) : Nat) : Int)))) (by kernel_rfl) (decide_eq_false h4)) fun a hK => ?_
        refine stepP hK 25 (.bool false) (by kernel_rfl) (by kernel_rfl) fun a hK => ?_
        refine region_done hK [(25, .bool false), (5, .bool false), (4, .int .i64 (((runL isDigit l) : Nat) : Int)), (3, .bool false), (2, .pointer (some ⟨b1, 0, none⟩)), (0, Str l)] ⟨rfl, rfl, rfl, rfl, rfl, rfl, trivial⟩ fun a hK => ?_
        refine wp_cond_false (hK.get rfl) ?_
        refine wp_skip ?_
        refine wp_seq ?_
        refine region_go (lst := [0, 1, 2, 3, 4, 5, 6, 7, 8]) (by kernel_rfl) ?_
        refine stepM hK 28 0 (by kernel_rfl) (.inl rfl) rfl fun a hK => ?_
        refine stepM hK 29 4 (by kernel_rfl) (.inl rfl) rfl fun a hK => ?_
        refine stepP hK 30 (Str (l.take (runL isDigit l))) (by kernel_rfl) (run_slcHi (j := (runL isDigit l)) rfl rfl rfl (by omega)) fun a hK => ?_
        have htw := tw_take isDigit l
        rcases parse_dig (l := (l.take (runL isDigit l))) (by rw [htw]; exact (get0 hc hd).2) (by rw [htw]; exact tw_digs l) with hp | hp
        · refine stepRet hK hM 31 #[Str (l.take (runL isDigit l)), .int .i64 10, .int .i64 64] (.tuple #[.int .i64 (((foldD 0 ((l.take (runL isDigit l)))) : Nat) : Int), .nilIface]) (by kernel_rfl) (run_callE en_strconv_ParseInt rfl rfl (by kernel_rfl)) (lib_ParseInt_ok (l.take (runL isDigit l)) _ _ (by rw [List.length_take]; omega) hp.2) fun a w hK hM => ?_
          refine stepM hK 27 31 (by kernel_rfl) (.inl rfl) rfl fun a hK => ?_
          refine stepP hK 32 (.int .i64 (((foldD 0 ((l.take (runL isDigit l)))) : Nat) : Int)) (by kernel_rfl) (by kernel_rfl) fun a hK => ?_
          refine stepP hK 33 (.nilIface) (by kernel_rfl) (by kernel_rfl) fun a hK => ?_
          refine stepM hK 6 32 (by kernel_rfl) (.inr rfl) rfl fun a hK => ?_
          refine stepM hK 7 33 (by kernel_rfl) (.inr rfl) rfl fun a hK => ?_
          refine region_done hK [(7, .nilIface), (6, .int .i64 (((foldD 0 ((l.take (runL isDigit l)))) : Nat) : Int)), (25, .bool false), (5, .bool false), (4, .int .i64 (((runL isDigit l) : Nat) : Int)), (3, .bool false), (2, .pointer (some ⟨b1, 0, none⟩)), (0, Str l)] ⟨rfl, rfl, rfl, rfl, rfl, rfl, rfl, rfl, trivial⟩ fun a hK => ?_
          refine wp_seq ?_
          refine wp_seq ?_
          refine region_go (lst := [0, 1]) (by kernel_rfl) ?_
          refine stepM hK 34 7 (by kernel_rfl) (.inl rfl) rfl fun a hK => ?_
          refine stepP hK 35 (.bool false) (by kernel_rfl) (by kernel_rfl) fun a hK => ?_
          refine region_done hK [(35, .bool false), (7, .nilIface), (6, .int .i64 (((foldD 0 ((l.take (runL isDigit l)))) : Nat) : Int)), (25, .bool false), (5, .bool false), (4, .int .i64 (((runL isDigit l) : Nat) : Int)), (3, .bool false), (2, .pointer (some ⟨b1, 0, none⟩)), (0, Str l)] ⟨rfl, rfl, rfl, rfl, rfl, rfl, rfl, rfl, rfl, trivial⟩ fun a hK => ?_
          refine wp_cond_false (hK.get rfl) ?_
          refine wp_skip ?_
          refine wp_seq ?_
          refine region_go (lst := [0, 1, 2, 3, 4, 5]) (by kernel_rfl) ?_
          refine stepM hK 37 0 (by kernel_rfl) (.inl rfl) rfl fun a hK => ?_
          refine stepM hK 38 4 (by kernel_rfl) (.inl rfl) rfl fun a hK => ?_
          refine stepP hK 39 (Str (l.take (runL isDigit l))) (by kernel_rfl) (run_slcHi (j := (runL isDigit l)) rfl rfl rfl (by omega)) fun a hK => ?_
          refine stepRet hK hM 40 #[.int .i64 3, Str (l.take (runL isDigit l))] (.agg #[.int .i64 3, Str (l.take (runL isDigit l)), .int .i64 0, .int .i64 0]) (by kernel_rfl) (run_callE en_lex_token rfl rfl (by kernel_rfl)) (lex_token 3 (l.take (runL isDigit l)) (by first | omega | (rw [List.length_drop]; omega) | (rw [List.length_take]; omega) | (rw [List.length_take, List.length_drop]; omega)) _) fun a w hK hM => ?_
          refine stepAlloc hK hM 8 35 [.int .i64 0, Str [], .int .i64 0, .int .i64 0] (fun b => .pointer (some ⟨b, 0, none⟩)) (by kernel_rfl) (by kernel_rfl) fun b5 a w hK hM => ?_
          refine stepStore hK hM 0 [.int .i64 3, Str (l.take (runL isDigit l)), .int .i64 0, .int .i64 0] (by kernel_rfl) rfl rfl rfl rfl (by kernel_rfl) fun w hM => ?_
          replace hM := hM.to [.row b5 35 [.int .i64 3, Str (l.take (runL isDigit l)), .int .i64 0, .int .i64 0], .row b1 35 [.int .i64 0, Str [], .int .i64 0, .int .i64 0]] (by kernel_rfl)
          refine region_done hK [(8, .pointer (some ⟨b5, 0, none⟩)), (35, .bool false), (7, .nilIface), (6, .int .i64 (((foldD 0 ((l.take (runL isDigit l)))) : Nat) : Int)), (25, .bool false), (5, .bool false), (4, .int .i64 (((runL isDigit l) : Nat) : Int)), (3, .bool false), (2, .pointer (some ⟨b1, 0, none⟩)), (0, Str l)] ⟨rfl, rfl, rfl, rfl, rfl, rfl, rfl, rfl, rfl, rfl, trivial⟩ fun a hK => ?_
          refine wp_seq ?_
          refine region_go (lst := [0, 1, 2]) (by kernel_rfl) ?_
          refine stepM hK 41 6 (by kernel_rfl) (.inl rfl) rfl fun a hK => ?_
          refine stepP hK 42 (.pointer (some ⟨b5, 2, none⟩)) (by kernel_rfl) (by kernel_rfl) fun a hK => ?_
          refine stepStore hK hM 0 [.int .i64 3, Str (l.take (runL isDigit l)), .int .i64 (((foldD 0 ((l.take (runL isDigit l)))) : Nat) : Int), .int .i64 0] (by kernel_rfl) rfl rfl rfl rfl (by kernel_rfl) fun w hM => ?_
          replace hM := hM.to [.row b5 35 [.int .i64 3, Str (l.take (runL isDigit l)), .int .i64 (((foldD 0 ((l.take (runL isDigit l)))) : Nat) : Int), .int .i64 0], .row b1 35 [.int .i64 0, Str [], .int .i64 0, .int .i64 0]] (by kernel_rfl)
          refine region_done hK [(8, .pointer (some ⟨b5, 0, none⟩)), (35, .bool false), (7, .nilIface), (6, .int .i64 (((foldD 0 ((l.take (runL isDigit l)))) : Nat) : Int)), (25, .bool false), (5, .bool false), (4, .int .i64 (((runL isDigit l) : Nat) : Int)), (3, .bool false), (2, .pointer (some ⟨b1, 0, none⟩)), (0, Str l)] ⟨rfl, rfl, rfl, rfl, rfl, rfl, rfl, rfl, rfl, rfl, trivial⟩ fun a hK => ?_
          refine wp_seq ?_
          refine region_go (lst := [0, 1, 2]) (by kernel_rfl) ?_
          refine stepLoad hK 43 (.agg #[.int .i64 3, Str (l.take (runL isDigit l)), .int .i64 (((foldD 0 ((l.take (runL isDigit l)))) : Nat) : Int), .int .i64 0]) (by kernel_rfl) rfl rfl ((hM.row 0 rfl).cells 0 4) (by kernel_rfl) fun a hK => ?_
          refine stepStore hK hM 1 [.int .i64 3, Str (l.take (runL isDigit l)), .int .i64 (((foldD 0 ((l.take (runL isDigit l)))) : Nat) : Int), .int .i64 0] (by kernel_rfl) rfl rfl rfl rfl (by kernel_rfl) fun w hM => ?_
          replace hM := hM.to [.row b5 35 [.int .i64 3, Str (l.take (runL isDigit l)), .int .i64 (((foldD 0 ((l.take (runL isDigit l)))) : Nat) : Int), .int .i64 0], .row b1 35 [.int .i64 3, Str (l.take (runL isDigit l)), .int .i64 (((foldD 0 ((l.take (runL isDigit l)))) : Nat) : Int), .int .i64 0]] (by kernel_rfl)
          refine stepP hK 3 (.bool true) (by kernel_rfl) (by kernel_rfl) fun a hK => ?_
          refine region_done hK [(3, .bool true), (8, .pointer (some ⟨b5, 0, none⟩)), (35, .bool false), (7, .nilIface), (6, .int .i64 (((foldD 0 ((l.take (runL isDigit l)))) : Nat) : Int)), (25, .bool false), (5, .bool false), (4, .int .i64 (((runL isDigit l) : Nat) : Int)), (2, .pointer (some ⟨b1, 0, none⟩)), (0, Str l)] ⟨rfl, rfl, rfl, rfl, rfl, rfl, rfl, rfl, rfl, rfl, trivial⟩ fun a hK => ?_
          refine wp_ret ?_
          exact ret_ct hK rfl rfl ((hM.row 1 rfl).cells 0 4) (u := (.agg #[.int .i64 3, Str (l.take (runL isDigit l)), .int .i64 (((foldD 0 ((l.take (runL isDigit l)))) : Nat) : Int), .int .i64 0])) (by kernel_rfl) (v := (.bool true)) rfl (⟨by unfold numV; rw [numAt_some (not_zero hc hd (.inr h3)) (by rw [← tw_take]; exact hp.1) h4, tw_take]; rfl, hM.below⟩)
        · refine stepCall hK hM 31 #[Str (l.take (runL isDigit l)), .int .i64 10, .int .i64 64] (by kernel_rfl) (run_callE en_strconv_ParseInt rfl rfl (by kernel_rfl)) (lib_ParseInt_range (l.take (runL isDigit l)) _ (hE.on hM.below) (by rw [List.length_take]; omega) hp.2) ?_
          rintro N6 a w - hK hM
          refine stepM hK 27 31 (by kernel_rfl) (.inl rfl) rfl fun a hK => ?_
          refine stepP hK 32 (.int .i64 (Lib.intSat 64 ((l.take (runL isDigit l))))) (by kernel_rfl) (by kernel_rfl) fun a hK => ?_
          refine stepP hK 33 (.iface 83 (.pointer (some ⟨N6, 0, none⟩))) (by kernel_rfl) (by kernel_rfl) fun a hK => ?_
          refine stepM hK 6 32 (by kernel_rfl) (.inr rfl) rfl fun a hK => ?_
          refine stepM hK 7 33 (by kernel_rfl) (.inr rfl) rfl fun a hK => ?_
          refine region_done hK [(7, .iface 83 (.pointer (some ⟨N6, 0, none⟩))), (6, .int .i64 (Lib.intSat 64 ((l.take (runL isDigit l))))), (25, .bool false), (5, .bool false), (4, .int .i64 (((runL isDigit l) : Nat) : Int)), (3, .bool false), (2, .pointer (some ⟨b1, 0, none⟩)), (0, Str l)] ⟨rfl, rfl, rfl, rfl, rfl, rfl, rfl, rfl, trivial⟩ fun a hK => ?_
          refine wp_seq ?_
          refine wp_seq ?_
          refine region_go (lst := [0, 1]) (by kernel_rfl) ?_
          refine stepM hK 34 7 (by kernel_rfl) (.inl rfl) rfl fun a hK => ?_
          refine stepP hK 35 (.bool true) (by kernel_rfl) (by kernel_rfl) fun a hK => ?_
          refine region_done hK [(35, .bool true), (7, .iface 83 (.pointer (some ⟨N6, 0, none⟩))), (6, .int .i64 (Lib.intSat 64 ((l.take (runL isDigit l))))), (25, .bool false), (5, .bool false), (4, .int .i64 (((runL isDigit l) : Nat) : Int)), (3, .bool false), (2, .pointer (some ⟨b1, 0, none⟩)), (0, Str l)] ⟨rfl, rfl, rfl, rfl, rfl, rfl, rfl, rfl, rfl, trivial⟩ fun a hK => ?_
          refine wp_cond_true (hK.get rfl) ?_
          refine wp_seq ?_
          refine region_go (lst := [0, 1, 2]) (by kernel_rfl) ?_
          refine stepP hK 36 (.agg #[.int .i64 0, Str [], .int .i64 0, .int .i64 0]) (by kernel_rfl) (by kernel_rfl) fun a hK => ?_
          refine stepStore hK hM 0 [.int .i64 0, Str [], .int .i64 0, .int .i64 0] (by kernel_rfl) rfl rfl rfl rfl (by kernel_rfl) fun w hM => ?_
          replace hM := hM.to [.row b1 35 [.int .i64 0, Str [], .int .i64 0, .int .i64 0]] (by kernel_rfl)
          refine stepP hK 3 (.bool false) (by kernel_rfl) (by kernel_rfl) fun a hK => ?_
          refine region_done hK [(3, .bool false), (35, .bool true), (7, .iface 83 (.pointer (some ⟨N6, 0, none⟩))), (6, .int .i64 (Lib.intSat 64 ((l.take (runL isDigit l))))), (25, .bool false), (5, .bool false), (4, .int .i64 (((runL isDigit l) : Nat) : Int)), (2, .pointer (some ⟨b1, 0, none⟩)), (0, Str l)] ⟨rfl, rfl, rfl, rfl, rfl, rfl, rfl, rfl, rfl, trivial⟩ fun a hK => ?_
          refine wp_ret ?_
          exact ret_ct hK rfl rfl ((hM.row 0 rfl).cells 0 4) (u := (.agg #[.int .i64 0, Str [], .int .i64 0, .int .i64 0])) (by kernel_rfl) (v := (.bool false)) rfl (⟨by unfold numV; rw [numAt_big (not_zero hc hd (.inr h3)) (by rw [← tw_take]; exact hp.1)]; rfl, hM.below⟩)
  · refine stepP hK 13 (.bool false) (by kernel_rfl) (okBool (b := (decide ((((c.toNat : Nat) : Int) : Int) = 48))) (by kernel_rfl) (decide_eq_false h2)) fun a hK => ?_
    refine stepM hK 14 13 (by kernel_rfl) (.inl rfl) rfl fun a hK => ?_
    refine stepN hK 15 (by kernel_rfl) fun a hK => ?_
    refine stepN hK 16 (by kernel_rfl) fun a hK => ?_
    refine stepP hK 17 (.bool false) (by kernel_rfl) (by kernel_rfl) fun a hK => ?_
    refine stepM hK 5 17 (by kernel_rfl) (.inr rfl) rfl fun a hK => ?_
    refine region_done hK [(5, .bool false), (4, .int .i64 (((runL isDigit l) : Nat) : Int)), (3, .bool false), (2, .pointer (some ⟨b1, 0, none⟩)), (0, Str l)] ⟨rfl, rfl, rfl, rfl, rfl, trivial⟩ fun a hK => ?_
    refine wp_seq ?_
    refine wp_seq ?_
    refine region_go (lst := [0, 1, 2, 3, 4, 5, 6, 7]) (by kernel_rfl) ?_
    refine stepM hK 18 5 (by kernel_rfl) (.inl rfl) rfl fun a hK => ?_
    refine stepM hK 19 18 (by kernel_rfl) (.inl rfl) rfl fun a hK => ?_
    refine stepM hK 20 0 (by kernel_rfl) (.inl rfl) rfl fun a hK => ?_
    refine stepM hK 21 4 (by kernel_rfl) (.inl rfl) rfl fun a hK => ?_
    refine stepP hK 22 (Str (l.drop (runL isDigit l))) (by kernel_rfl) (run_slcLo (i := (runL isDigit l)) rfl rfl rfl (by omega)) fun a hK => ?_
    refine stepRet hK hM 23 #[Str (l.drop (runL isDigit l)), .func (.func 21) #[] #[]] (.int .i64 (((runL inWordB (l.drop (runL isDigit l))) : Nat) : Int)) (by kernel_rfl) (run_callE en_lex_run rfl rfl (by kernel_rfl)) (lex_run (l.drop (runL isDigit l)) (by first | omega | (rw [List.length_drop]; omega) | (rw [List.length_take]; omega) | (rw [List.length_take, List.length_drop]; omega)) _ inWordB en_lex_inWord lex_inWord _) fun a w hK hM => ?_
    by_cases h8 : (0 : Int) < (((runL inWordB (l.drop (runL isDigit l))) : Nat) : Int)
    · refine stepP hK 24 (.bool true) (by kernel_rfl) (okBool (b := (decide ((0 : Int) < (((runL inWordB (l.drop (runL isDigit l))) : Nat) : Int)))) (by kernel_rfl) (decide_eq_true h8)) fun a hK => ?_
      refine stepP hK 25 (.bool true) (by kernel_rfl) (by kernel_rfl) fun a hK => ?_
      refine region_done hK [(25, .bool true), (5, .bool false), (4, .int .i64 (((runL isDigit l) : Nat) : Int)), (3, .bool false), (2, .pointer (some ⟨b1, 0, none⟩)), (0, Str l)] ⟨rfl, rfl, rfl, rfl, rfl, rfl, trivial⟩ fun a hK => ?_
      refine wp_cond_true (hK.get rfl) ?_
      refine wp_seq ?_
      refine region_go (lst := [0, 1, 2]) (by kernel_rfl) ?_
      refine stepP hK 26 (.agg #[.int .i64 0, Str [], .int .i64 0, .int .i64 0]) (by kernel_rfl) (by kernel_rfl) fun a hK => ?_
      refine stepStore hK hM 0 [.int .i64 0, Str [], .int .i64 0, .int .i64 0] (by kernel_rfl) rfl rfl rfl rfl (by kernel_rfl) fun w hM => ?_
      replace hM := hM.to [.row b1 35 [.int .i64 0, Str [], .int .i64 0, .int .i64 0]] (by kernel_rfl)
      refine stepP hK 3 (.bool false) (by kernel_rfl) (by kernel_rfl) fun a hK => ?_
      refine region_done hK [(3, .bool false), (25, .bool true), (5, .bool false), (4, .int .i64 (((runL isDigit l) : Nat) : Int)), (2, .pointer (some ⟨b1, 0, none⟩)), (0, Str l)] ⟨rfl, rfl, rfl, rfl, rfl, rfl, trivial⟩ fun a hK => ?_
      refine wp_ret ?_
      exact ret_ct hK rfl rfl ((hM.row 0 rfl).cells 0 4) (u := (.agg #[.int .i64 0, Str [], .int .i64 0, .int .i64 0])) (by kernel_rfl) (v := (.bool false)) rfl (⟨by unfold numV; rw [numAt_word h8]; rfl, hM.below⟩)
    · refine stepP hK 24 (.bool false) (by kernel_rfl) (okBool (b := (decide ((0 : Int) < (((runL inWordB (l.drop (runL isDigit l))) : Nat) : Int)))) (by kernel_rfl) (decide_eq_false h8)) fun a hK => ?_
      refine stepP hK 25 (.bool false) (by kernel_rfl) (by kernel_rfl) fun a hK => ?_
      refine region_done hK [(25, .bool false), (5, .bool false), (4, .int .i64 (((runL isDigit l) : Nat) : Int)), (3, .bool false), (2, .pointer (some ⟨b1, 0, none⟩)), (0, Str l)] ⟨rfl, rfl, rfl, rfl, rfl, rfl, trivial⟩ fun a hK => ?_
      refine wp_cond_false (hK.get rfl) ?_
      refine wp_skip ?_
      refine wp_seq ?_
      refine region_go (lst := [0, 1, 2, 3, 4, 5, 6, 7, 8]) (by kernel_rfl) ?_
      refine stepM hK 28 0 (by kernel_rfl) (.inl rfl) rfl fun a hK => ?_
      refine stepM hK 29 4 (by kernel_rfl) (.inl rfl) rfl fun a hK => ?_
      refine stepP hK 30 (Str (l.take (runL isDigit l))) (by kernel_rfl) (run_slcHi (j := (runL isDigit l)) rfl rfl rfl (by omega)) fun a hK => ?_
      have htw := tw_take isDigit l
      rcases parse_dig (l := (l.take (runL isDigit l))) (by rw [htw]; exact (get0 hc hd).2) (by rw [htw]; exact tw_digs l) with hp | hp
      · refine stepRet hK hM 31 #[Str (l.take (runL isDigit l)), .int .i64 10, .int .i64 64] (.tuple #[.int .i64 (((foldD 0 ((l.take (runL isDigit l)))) : Nat) : Int), .nilIface]) (by kernel_rfl) (run_callE en_strconv_ParseInt rfl rfl (by kernel_rfl)) (lib_ParseInt_ok (l.take (runL isDigit l)) _ _ (by rw [List.length_take]; omega) hp.2) fun a w hK hM => ?_
        refine stepM hK 27 31 (by kernel_rfl) (.inl rfl) rfl fun a hK => ?_
        refine stepP hK 32 (.int .i64 (((foldD 0 ((l.take (runL isDigit l)))) : Nat) : Int)) (by kernel_rfl) (by kernel_rfl) fun a hK => ?_
        refine stepP hK 33 (.nilIface) (by kernel_rfl) (by kernel_rfl) fun a hK => ?_
        refine stepM hK 6 32 (by kernel_rfl) (.inr rfl) rfl fun a hK => ?_
        refine stepM hK 7 33 (by kernel_rfl) (.inr rfl) rfl fun a hK => ?_
        refine region_done hK [(7, .nilIface), (6, .int .i64 (((foldD 0 ((l.take (runL isDigit l)))) : Nat) : Int)), (25, .bool false), (5, .bool false), (4, .int .i64 (((runL isDigit l) : Nat) : Int)), (3, .bool false), (2, .pointer (some ⟨b1, 0, none⟩)), (0, Str l)] ⟨rfl, rfl, rfl, rfl, rfl, rfl, rfl, rfl, trivial⟩ fun a hK => ?_
        refine wp_seq ?_
        refine wp_seq ?_
        refine region_go (lst := [0, 1]) (by kernel_rfl) ?_
        refine stepM hK 34 7 (by kernel_rfl) (.inl rfl) rfl fun a hK => ?_
        refine stepP hK 35 (.bool false) (by kernel_rfl) (by kernel_rfl) fun a hK => ?_
        refine region_done hK [(35, .bool false), (7, .nilIface), (6, .int .i64 (((foldD 0 ((l.take (runL isDigit l)))) : Nat) : Int)), (25, .bool false), (5, .bool false), (4, .int .i64 (((runL isDigit l) : Nat) : Int)), (3, .bool false), (2, .pointer (some ⟨b1, 0, none⟩)), (0, Str l)] ⟨rfl, rfl, rfl, rfl, rfl, rfl, rfl, rfl, rfl, trivial⟩ fun a hK => ?_
        refine wp_cond_false (hK.get rfl) ?_
        refine wp_skip ?_
        refine wp_seq ?_
        refine region_go (lst := [0, 1, 2, 3, 4, 5]) (by kernel_rfl) ?_
        refine stepM hK 37 0 (by kernel_rfl) (.inl rfl) rfl fun a hK => ?_
        refine stepM hK 38 4 (by kernel_rfl) (.inl rfl) rfl fun a hK => ?_
        refine stepP hK 39 (Str (l.take (runL isDigit l))) (by kernel_rfl) (run_slcHi (j := (runL isDigit l)) rfl rfl rfl (by omega)) fun a hK => ?_
        refine stepRet hK hM 40 #[.int .i64 3, Str (l.take (runL isDigit l))] (.agg #[.int .i64 3, Str (l.take (runL isDigit l)), .int .i64 0, .int .i64 0]) (by kernel_rfl) (run_callE en_lex_token rfl rfl (by kernel_rfl)) (lex_token 3 (l.take (runL isDigit l)) (by first | omega | (rw [List.length_drop]; omega) | (rw [List.length_take]; omega) | (rw [List.length_take, List.length_drop]; omega)) _) fun a w hK hM => ?_
        refine stepAlloc hK hM 8 35 [.int .i64 0, Str [], .int .i64 0, .int .i64 0] (fun b => .pointer (some ⟨b, 0, none⟩)) (by kernel_rfl) (by kernel_rfl) fun b9 a w hK hM => ?_
        refine stepStore hK hM 0 [.int .i64 3, Str (l.take (runL isDigit l)), .int .i64 0, .int .i64 0] (by kernel_rfl) rfl rfl rfl rfl (by kernel_rfl) fun w hM => ?_
        replace hM := hM.to [.row b9 35 [.int .i64 3, Str (l.take (runL isDigit l)), .int .i64 0, .int .i64 0], .row b1 35 [.int .i64 0, Str [], .int .i64 0, .int .i64 0]] (by kernel_rfl)
        refine region_done hK [(8, .pointer (some ⟨b9, 0, none⟩)), (35, .bool false), (7, .nilIface), (6, .int .i64 (((foldD 0 ((l.take (runL isDigit l)))) : Nat) : Int)), (25, .bool false), (5, .bool false), (4, .int .i64 (((runL isDigit l) : Nat) : Int)), (3, .bool false), (2, .pointer (some ⟨b1, 0, none⟩)), (0, Str l)] ⟨rfl, rfl, rfl, rfl, rfl, rfl, rfl, rfl, rfl, rfl, trivial⟩ fun a hK => ?_
        refine wp_seq ?_
        refine region_go (lst := [0, 1, 2]) (by kernel_rfl) ?_
        refine stepM hK 41 6 (by kernel_rfl) (.inl rfl) rfl fun a hK => ?_
        refine stepP hK 42 (.pointer (some ⟨b9, 2, none⟩)) (by kernel_rfl) (by kernel_rfl) fun a hK => ?_
        refine stepStore hK hM 0 [.int .i64 3, Str (l.take (runL isDigit l)), .int .i64 (((foldD 0 ((l.take (runL isDigit l)))) : Nat) : Int), .int .i64 0] (by kernel_rfl) rfl rfl rfl rfl (by kernel_rfl) fun w hM => ?_
        replace hM := hM.to [.row b9 35 [.int .i64 3, Str (l.take (runL isDigit l)), .int .i64 (((foldD 0 ((l.take (runL isDigit l)))) : Nat) : Int), .int .i64 0], .row b1 35 [.int .i64 0, Str [], .int .i64 0, .int .i64 0]] (by kernel_rfl)
        refine region_done hK [(8, .pointer (some ⟨b9, 0, none⟩)), (35, .bool false), (7, .nilIface), (6, .int .i64 (((foldD 0 ((l.take (runL isDigit l)))) : Nat) : Int)), (25, .bool false), (5, .bool false), (4, .int .i64 (((runL isDigit l) : Nat) : Int)), (3, .bool false), (2, .pointer (some ⟨b1, 0, none⟩)), (0, Str l)] ⟨rfl, rfl, rfl, rfl, rfl, rfl, rfl, rfl, rfl, rfl, trivial⟩ fun a hK => ?_
        refine wp_seq ?_
        refine region_go (lst := [0, 1, 2]) (by kernel_rfl) ?_
        refine stepLoad hK 43 (.agg #[.int .i64 3, Str (l.take (runL isDigit l)), .int .i64 (((foldD 0 ((l.take (runL isDigit l)))) : Nat) : Int), .int .i64 0]) (by kernel_rfl) rfl rfl ((hM.row 0 rfl).cells 0 4) (by kernel_rfl) fun a hK => ?_
        refine stepStore hK hM 1 [.int .i64 3, Str (l.take (runL isDigit l)), .int .i64 (((foldD 0 ((l.take (runL isDigit l)))) : Nat) : Int), .int .i64 0] (by kernel_rfl) rfl rfl rfl rfl (by kernel_rfl) fun w hM => ?_
        replace hM := hM.to [.row b9 35 [.int .i64 3, Str (l.take (runL isDigit l)), .int .i64 (((foldD 0 ((l.take (runL isDigit l)))) : Nat) : Int), .int .i64 0], .row b1 35 [.int .i64 3, Str (l.take (runL isDigit l)), .int .i64 (((foldD 0 ((l.take (runL isDigit l)))) : Nat) : Int), .int .i64 0]] (by kernel_rfl)
        refine stepP hK 3 (.bool true) (by kernel_rfl) (by kernel_rfl) fun a hK => ?_
        refine region_done hK [(3, .bool true), (8, .pointer (some ⟨b9, 0, none⟩)), (35, .bool false), (7, .nilIface), (6, .int .i64 (((foldD 0 ((l.take (runL isDigit l)))) : Nat) : Int)), (25, .bool false), (5, .bool false), (4, .int .i64 (((runL isDigit l) : Nat) : Int)), (2, .pointer (some ⟨b1, 0, none⟩)), (0, Str l)] ⟨rfl, rfl, rfl, rfl, rfl, rfl, rfl, rfl, rfl, rfl, trivial⟩ fun a hK => ?_
        refine wp_ret ?_
        exact ret_ct hK rfl rfl ((hM.row 1 rfl).cells 0 4) (u := (.agg #[.int .i64 3, Str (l.take (runL isDigit l)), .int .i64 (((foldD 0 ((l.take (runL isDigit l)))) : Nat) : Int), .int .i64 0])) (by kernel_rfl) (v := (.bool true)) rfl (⟨by unfold numV; rw [numAt_some (not_zero hc hd (.inl h2)) (by rw [← tw_take]; exact hp.1) h8, tw_take]; rfl, hM.below⟩)
      · refine stepCall hK hM 31 #[Str (l.take (runL isDigit l)), .int .i64 10, .int .i64 64] (by kernel_rfl) (run_callE en_strconv_ParseInt rfl rfl (by kernel_rfl)) (lib_ParseInt_range (l.take (runL isDigit l)) _ (hE.on hM.below) (by rw [List.length_take]; omega) hp.2) ?_
        rintro N10 a w - hK hM
        refine stepM hK 27 31 (by kernel_rfl) (.inl rfl) rfl fun a hK => ?_
        refine stepP hK 32 (.int .i64 (Lib.intSat 64 ((l.take (runL isDigit l))))) (by kernel_rfl) (by kernel_rfl) fun a hK => ?_
        refine stepP hK 33 (.iface 83 (.pointer (some ⟨N10, 0, none⟩))) (by kernel_rfl) (by kernel_rfl) fun a hK => ?_
        refine stepM hK 6 32 (by kernel_rfl) (.inr rfl) rfl fun a hK => ?_
        refine stepM hK 7 33 (by kernel_rfl) (.inr rfl) rfl fun a hK => ?_
        refine region_done hK [(7, .iface 83 (.pointer (some ⟨N10, 0, none⟩))), (6, .int .i64 (Lib.intSat 64 ((l.take (runL isDigit l))))), (25, .bool false), (5, .bool false), (4, .int .i64 (((runL isDigit l) : Nat) : Int)), (3, .bool false), (2, .pointer (some ⟨b1, 0, none⟩)), (0, Str l)] ⟨rfl, rfl, rfl, rfl, rfl, rfl, rfl, rfl, trivial⟩ fun a hK => ?_
        refine wp_seq ?_
        refine wp_seq ?_
        refine region_go (lst := [0, 1]) (by kernel_rfl) ?_
        refine stepM hK 34 7 (by kernel_rfl) (.inl rfl) rfl fun a hK => ?_
        refine stepP hK 35 (.bool true) (by kernel_rfl) (by kernel_rfl) fun a hK => ?_
        refine region_done hK [(35, .bool true), (7, .iface 83 (.pointer (some ⟨N10, 0, none⟩))), (6, .int .i64 (Lib.intSat 64 ((l.take (runL isDigit l))))), (25, .bool false), (5, .bool false), (4, .int .i64 (((runL isDigit l) : Nat) : Int)), (3, .bool false), (2, .pointer (some ⟨b1, 0, none⟩)), (0, Str l)] ⟨rfl, rfl, rfl, rfl, rfl, rfl, rfl, rfl, rfl, trivial⟩ fun a hK => ?_
        refine wp_cond_true (hK.get rfl) ?_
        refine wp_seq ?_
        refine region_go (lst := [0, 1, 2]) (by kernel_rfl) ?_
        refine stepP hK 36 (.agg #[.int .i64 0, Str [], .int .i64 0, .int .i64 0]) (by kernel_rfl) (by kernel_rfl) fun a hK => ?_
        refine stepStore hK hM 0 [.int .i64 0, Str [], .int .i64 0, .int .i64 0] (by kernel_rfl) rfl rfl rfl rfl (by kernel_rfl) fun w hM => ?_
        replace hM := hM.to [.row b1 35 [.int .i64 0, Str [], .int .i64 0, .int .i64 0]] (by kernel_rfl)
        refine stepP hK 3 (.bool false) (by kernel_rfl) (by kernel_rfl) fun a hK => ?_
        refine region_done hK [(3, .bool false), (35, .bool true), (7, .iface 83 (.pointer (some ⟨N10, 0, none⟩))), (6, .int .i64 (Lib.intSat 64 ((l.take (runL isDigit l))))), (25, .bool false), (5, .bool false), (4, .int .i64 (((runL isDigit l) : Nat) : Int)), (2, .pointer (some ⟨b1, 0, none⟩)), (0, Str l)] ⟨rfl, rfl, rfl, rfl, rfl, rfl, rfl, rfl, rfl, trivial⟩ fun a hK => ?_
        refine wp_ret ?_
        exact ret_ct hK rfl rfl ((hM.row 0 rfl).cells 0 4) (u := (.agg #[.int .i64 0, Str [], .int .i64 0, .int .i64 0])) (by kernel_rfl) (v := (.bool false)) rfl (⟨by unfold numV; rw [numAt_big (not_zero hc hd (.inl h2)) (by rw [← tw_take]; exact hp.1)]; rfl, hM.below⟩)
theorem en_lex_number : Enters Tryd.prog 41 := enters_of Tryd.func41 (by kernel_rfl) rfl
/-- What first answers. -/
def badK (l : List UInt8) : Int := match l with
  | [] => 0
  | c :: _ => if isDigit c = true then 0 else 4
def firstV (l : List UInt8) : Value := match oneOf l with
  | some t => .tuple #[.agg (tokC t.1 t.2.1 t.2.2 0).toArray, .bool true]
  | none => .tuple #[.agg (tokC (badK l) [] 0 0).toArray, .bool false]
section
variable {l : List UInt8} {c : UInt8}
theorem one_word (hc : l[0]? = some c) (h : isLetter c = true) : oneOf l = some (((kindOf (l.takeWhile wordB) : Nat) : Int), l.takeWhile wordB, 0) := by
  cases l with
  | nil => cases hc
  | cons a r => obtain rfl := Option.some.inj hc; unfold oneOf; simp only; rw [if_pos h]
theorem one_num (hc : l[0]? = some c) (h : isLetter c = false) (hd : isDigit c = true) : oneOf l = (numAt l).map fun n => (3, l.takeWhile isDigit, n) := by
  cases l with
  | nil => cases hc
  | cons a r => obtain rfl := Option.some.inj hc; unfold oneOf; simp only; rw [if_neg (by rw [h]; decide), if_pos hd]
theorem one_sign (hc : l[0]? = some c) (h : isLetter c = false) (hd : isDigit c = false) : oneOf l = (signAt l).map fun q => (4, q, 0) := by
  cases l with
  | nil => cases hc
  | cons a r => obtain rfl := Option.some.inj hc; unfold oneOf; simp only; rw [if_neg (by rw [h]; decide), if_neg (by rw [hd]; decide)]
theorem badK_dig (hc : l[0]? = some c) (hd : isDigit c = true) : badK l = 0 := by
  cases l with
  | nil => cases hc
  | cons a r => obtain rfl := Option.some.inj hc; unfold badK; simp only; rw [if_pos hd]
theorem badK_not (hc : l[0]? = some c) (hd : isDigit c = false) : badK l = 4 := by
  cases l with
  | nil => cases hc
  | cons a r => obtain rfl := Option.some.inj hc; unfold badK; simp only; rw [if_neg (by rw [hd]; decide)]
theorem sign_pre {q : List UInt8} (h : signAt l = some q) : l.take q.length = q ∧ 1 ≤ q.length ∧ q.length ≤ l.length := by
  have h1 := List.find?_some h
  have h2 := List.mem_of_find?_eq_some h
  rw [List.isPrefixOf_iff_prefix] at h1
  refine ⟨(List.prefix_iff_eq_take.1 h1).symm, ?_, h1.length_le⟩
  have : ∀ q ∈ signL, 1 ≤ q.length := by decide
  exact this q h2
theorem signLen_le (l : List UInt8) : signLen l ≤ l.length := by
  unfold signLen
  cases h : signAt l with
  | none => exact Nat.zero_le _
  | some q => exact (sign_pre h).2.2
end
set_option maxRecDepth 100000 in
set_option maxHeartbeats 4000000 in
theorem lex_first (l : List UInt8) (b : Nat) (w0 : World) (hE : ErrOk w0) (hlen : l.length ≤ 65536) (hne : 0 < l.length) (hb1 : b < w0.heap.size) (hb2 : w0.heap[b]? = some kwObj) : Calls Tryd.prog 25 #[Str l, .map (some b)] w0 (Ret w0 (firstV l)) := by
  refine calls_K (args := [Str l, .map (some b)]) (n := 37) (env := [(0, Str l), (1, .map (some b))]) Tryd.func25 rfl rfl rfl ⟨rfl, rfl, trivial⟩ fun a w hK hM => ?_
  have hr1 := runL_le inWordB l
  have hr2 := signLen_le l
  refine wp_seq ?_
  refine region_go (lst := [0, 1]) (by kernel_rfl) ?_
  refine stepAlloc hK hM 4 35 [.int .i64 0, Str [], .int .i64 0, .int .i64 0] (fun b => .pointer (some ⟨b, 0, none⟩)) (by kernel_rfl) (by kernel_rfl) fun b1 a w hK hM => ?_
  refine stepP hK 5 (.bool false) (by kernel_rfl) (by kernel_rfl) fun a hK => ?_
  refine region_done hK [(5, .bool false), (4, .pointer (some ⟨b1, 0, none⟩)), (0, Str l), (1, .map (some b))] ⟨rfl, rfl, rfl, rfl, trivial⟩ fun a hK => ?_
  refine wp_seq ?_
  refine wp_block ?_
  refine wp_seq ?_
  refine region_go (lst := [0, 1, 2, 3]) (by kernel_rfl) ?_
  refine stepM hK 9 0 (by kernel_rfl) (.inl rfl) rfl fun a hK => ?_
  obtain ⟨c2, hc2⟩ : ∃ c, l[(0 : Nat)]? = some c := ⟨_, List.getElem?_eq_getElem (by omega)⟩
  refine stepP hK 10 (.int .u8 ((c2.toNat : Nat) : Int)) (by kernel_rfl) (run_idxS (k := 0) rfl rfl rfl hc2) fun a hK => ?_
  rcases Bool.eq_false_or_eq_true (isLetter c2) with h3 | h3
  · refine stepRet hK hM 11 #[.int .u8 ((c2.toNat : Nat) : Int)] (.bool true) (by kernel_rfl) (run_callE en_lex_isLetter rfl rfl (by kernel_rfl)) (ret_eq (lex_isLetter c2 _) (congrArg Value.bool h3)) fun a w hK hM => ?_
    refine stepM hK 8 11 (by kernel_rfl) (.inr rfl) rfl fun a hK => ?_
    refine region_done hK [(8, .bool true), (5, .bool false), (4, .pointer (some ⟨b1, 0, none⟩)), (0, Str l), (1, .map (some b))] ⟨rfl, rfl, rfl, rfl, rfl, trivial⟩ fun a hK => ?_
    refine wp_cond_true (hK.get rfl) ?_
    refine wp_seq ?_
    refine region_go (lst := [0, 1, 2, 3, 4]) (by kernel_rfl) ?_
    refine stepM hK 12 0 (by kernel_rfl) (.inl rfl) rfl fun a hK => ?_
    refine stepM hK 13 0 (by kernel_rfl) (.inl rfl) rfl fun a hK => ?_
    refine stepRet hK hM 14 #[Str l, .func (.func 21) #[] #[]] (.int .i64 (((runL inWordB l) : Nat) : Int)) (by kernel_rfl) (run_callE en_lex_run rfl rfl (by kernel_rfl)) (lex_run l (by first | omega | (rw [List.length_drop]; omega) | (rw [List.length_take]; omega) | (rw [List.length_take, List.length_drop]; omega)) _ inWordB en_lex_inWord lex_inWord _) fun a w hK hM => ?_
    refine stepP hK 15 (Str (l.take (runL inWordB l))) (by kernel_rfl) (run_slcHi (j := (runL inWordB l)) rfl rfl rfl (by omega)) fun a hK => ?_
    refine stepM hK 6 15 (by kernel_rfl) (.inr rfl) rfl fun a hK => ?_
    refine region_done hK [(6, Str (l.take (runL inWordB l))), (8, .bool true), (5, .bool false), (4, .pointer (some ⟨b1, 0, none⟩)), (0, Str l), (1, .map (some b))] ⟨rfl, rfl, rfl, rfl, rfl, rfl, trivial⟩ fun a hK => ?_
    refine wp_seq ?_
    refine region_go (lst := [0, 1, 2, 3, 4, 5, 6]) (by kernel_rfl) ?_
    refine stepM hK 16 6 (by kernel_rfl) (.inl rfl) rfl fun a hK => ?_
    refine stepM hK 17 1 (by kernel_rfl) (.inl rfl) rfl fun a hK => ?_
    refine stepRet hK hM 18 #[Str (l.take (runL inWordB l)), .map (some b)] (.int .i64 (((kindOf (l.take (runL inWordB l))) : Nat) : Int)) (by kernel_rfl) (run_callE en_lex_wordKind rfl rfl (by kernel_rfl)) (lex_wordKind (l.take (runL inWordB l)) _ _ (Nat.lt_of_lt_of_le hb1 hM.below.size) ((hM.below.block _ hb1).trans hb2)) fun a w hK hM => ?_
    refine stepM hK 19 6 (by kernel_rfl) (.inl rfl) rfl fun a hK => ?_
    refine stepRet hK hM 20 #[.int .i64 (((kindOf (l.take (runL inWordB l))) : Nat) : Int), Str (l.take (runL inWordB l))] (.agg #[.int .i64 (((kindOf (l.take (runL inWordB l))) : Nat) : Int), Str (l.take (runL inWordB l)), .int .i64 0, .int .i64 0]) (by kernel_rfl) (run_callE en_lex_token rfl rfl (by kernel_rfl)) (lex_token (((kindOf (l.take (runL inWordB l))) : Nat) : Int) (l.take (runL inWordB l)) (by first | omega | (rw [List.length_drop]; omega) | (rw [List.length_take]; omega) | (rw [List.length_take, List.length_drop]; omega)) _) fun a w hK hM => ?_
    refine stepStore hK hM 0 [.int .i64 (((kindOf (l.take (runL inWordB l))) : Nat) : Int), Str (l.take (runL inWordB l)), .int .i64 0, .int .i64 0] (by kernel_rfl) rfl rfl rfl rfl (by kernel_rfl) fun w hM => ?_
    replace hM := hM.to [.row b1 35 [.int .i64 (((kindOf (l.take (runL inWordB l))) : Nat) : Int), Str (l.take (runL inWordB l)), .int .i64 0, .int .i64 0]] (by kernel_rfl)
    refine stepP hK 5 (.bool true) (by kernel_rfl) (by kernel_rfl) fun a hK => ?_
    refine region_done hK [(5, .bool true), (6, Str (l.take (runL inWordB l))), (8, .bool true), (4, .pointer (some ⟨b1, 0, none⟩)), (0, Str l), (1, .map (some b))] ⟨rfl, rfl, rfl, rfl, rfl, rfl, trivial⟩ fun a hK => ?_
    refine wp_ret ?_
    exact ret_ct hK rfl rfl ((hM.row 0 rfl).cells 0 4) (u := (.agg #[.int .i64 (((kindOf (l.take (runL inWordB l))) : Nat) : Int), Str (l.take (runL inWordB l)), .int .i64 0, .int .i64 0])) (by kernel_rfl) (v := (.bool true)) rfl (⟨by unfold firstV; rw [one_word hc2 h3, ← inWordB_eq, ← tw_take]; rfl, hM.below⟩)
  · refine stepRet hK hM 11 #[.int .u8 ((c2.toNat : Nat) : Int)] (.bool false) (by kernel_rfl) (run_callE en_lex_isLetter rfl rfl (by kernel_rfl)) (ret_eq (lex_isLetter c2 _) (congrArg Value.bool h3)) fun a w hK hM => ?_
    refine stepM hK 8 11 (by kernel_rfl) (.inr rfl) rfl fun a hK => ?_
    refine region_done hK [(8, .bool false), (5, .bool false), (4, .pointer (some ⟨b1, 0, none⟩)), (0, Str l), (1, .map (some b))] ⟨rfl, rfl, rfl, rfl, rfl, trivial⟩ fun a hK => ?_
    refine wp_cond_false (hK.get rfl) ?_
    refine wp_seq ?_
    refine region_go (lst := [0, 1, 2, 3]) (by kernel_rfl) ?_
    refine stepM hK 22 0 (by kernel_rfl) (.inl rfl) rfl fun a hK => ?_
    refine stepP hK 23 (.int .u8 ((c2.toNat : Nat) : Int)) (by kernel_rfl) (run_idxS (k := 0) rfl rfl rfl hc2) fun a hK => ?_
    rcases Bool.eq_false_or_eq_true (isDigit c2) with h4 | h4
    · refine stepRet hK hM 24 #[.int .u8 ((c2.toNat : Nat) : Int)] (.bool true) (by kernel_rfl) (run_callE en_lex_isDigit rfl rfl (by kernel_rfl)) (ret_eq (lex_isDigit c2 _) (congrArg Value.bool h4)) fun a w hK hM => ?_
      refine stepM hK 21 24 (by kernel_rfl) (.inr rfl) rfl fun a hK => ?_
      refine region_done hK [(21, .bool true), (8, .bool false), (5, .bool false), (4, .pointer (some ⟨b1, 0, none⟩)), (0, Str l), (1, .map (some b))] ⟨rfl, rfl, rfl, rfl, rfl, rfl, trivial⟩ fun a hK => ?_
      refine wp_cond_true (hK.get rfl) ?_
      refine wp_seq ?_
      refine region_go (lst := [0, 1, 2, 3, 4, 5]) (by kernel_rfl) ?_
      refine stepM hK 25 0 (by kernel_rfl) (.inl rfl) rfl fun a hK => ?_
      rcases hn : numAt l with _ | n9
      · refine stepRet hK hM 26 #[Str l] (.tuple #[.agg #[.int .i64 0, Str [], .int .i64 0, .int .i64 0], .bool false]) (by kernel_rfl) (run_callE en_lex_number rfl rfl (by kernel_rfl)) (ret_eq (lex_number l hc2 h4 _ (hE.on hM.below) (by omega)) (v' := .tuple #[.agg (tokC 0 [] 0 0).toArray, .bool false]) (by unfold numV; rw [hn])) fun a w hK hM => ?_
        refine stepP hK 27 (.agg #[.int .i64 0, Str [], .int .i64 0, .int .i64 0]) (by kernel_rfl) (by kernel_rfl) fun a hK => ?_
        refine stepP hK 28 (.bool false) (by kernel_rfl) (by kernel_rfl) fun a hK => ?_
        refine stepStore hK hM 0 [.int .i64 0, Str [], .int .i64 0, .int .i64 0] (by kernel_rfl) rfl rfl rfl rfl (by kernel_rfl) fun w hM => ?_
        replace hM := hM.to [.row b1 35 [.int .i64 0, Str [], .int .i64 0, .int .i64 0]] (by kernel_rfl)
        refine stepM hK 5 28 (by kernel_rfl) (.inr rfl) rfl fun a hK => ?_
        refine region_done hK [(5, .bool false), (21, .bool true), (8, .bool false), (4, .pointer (some ⟨b1, 0, none⟩)), (0, Str l), (1, .map (some b))] ⟨rfl, rfl, rfl, rfl, rfl, rfl, trivial⟩ fun a hK => ?_
        refine wp_ret ?_
        exact ret_ct hK rfl rfl ((hM.row 0 rfl).cells 0 4) (u := (.agg #[.int .i64 0, Str [], .int .i64 0, .int .i64 0])) (by kernel_rfl) (v := (.bool false)) rfl (⟨by unfold firstV; rw [one_num hc2 h3 h4, hn, badK_dig hc2 h4]; rfl, hM.below⟩)
      · refine stepRet hK hM 26 #[Str l] (.tuple #[.agg #[.int .i64 3, Str (l.takeWhile isDigit), .int .i64 n9, .int .i64 0], .bool true]) (by kernel_rfl) (run_callE en_lex_number rfl rfl (by kernel_rfl)) (ret_eq (lex_number l hc2 h4 _ (hE.on hM.below) (by omega)) (v' := .tuple #[.agg (tokC 3 (l.takeWhile isDigit) n9 0).toArray, .bool true]) (by unfold numV; rw [hn])) fun a w hK hM => ?_
        refine stepP hK 27 (.agg #[.int .i64 3, Str (l.takeWhile isDigit), .int .i64 n9, .int .i64 0]) (by kernel_rfl) (by kernel_rfl) fun a hK => ?_
        refine stepP hK 28 (.bool true) (by kernel_rfl) (by kernel_rfl) fun a hK => ?_
        refine stepStore hK hM 0 [.int .i64 3, Str (l.takeWhile isDigit), .int .i64 n9, .int .i64 0] (by kernel_rfl) rfl rfl rfl rfl (by kernel_rfl) fun w hM => ?_
        replace hM := hM.to [.row b1 35 [.int .i64 3, Str (l.takeWhile isDigit), .int .i64 n9, .int .i64 0]] (by kernel_rfl)
        refine stepM hK 5 28 (by kernel_rfl) (.inr rfl) rfl fun a hK => ?_
        refine region_done hK [(5, .bool true), (21, .bool true), (8, .bool false), (4, .pointer (some ⟨b1, 0, none⟩)), (0, Str l), (1, .map (some b))] ⟨rfl, rfl, rfl, rfl, rfl, rfl, trivial⟩ fun a hK => ?_
        refine wp_ret ?_
        exact ret_ct hK rfl rfl ((hM.row 0 rfl).cells 0 4) (u := (.agg #[.int .i64 3, Str (l.takeWhile isDigit), .int .i64 n9, .int .i64 0])) (by kernel_rfl) (v := (.bool true)) rfl (⟨by unfold firstV; rw [one_num hc2 h3 h4, hn]; rfl, hM.below⟩)
    · refine stepRet hK hM 24 #[.int .u8 ((c2.toNat : Nat) : Int)] (.bool false) (by kernel_rfl) (run_callE en_lex_isDigit rfl rfl (by kernel_rfl)) (ret_eq (lex_isDigit c2 _) (congrArg Value.bool h4)) fun a w hK hM => ?_
      refine stepM hK 21 24 (by kernel_rfl) (.inr rfl) rfl fun a hK => ?_
      refine region_done hK [(21, .bool false), (8, .bool false), (5, .bool false), (4, .pointer (some ⟨b1, 0, none⟩)), (0, Str l), (1, .map (some b))] ⟨rfl, rfl, rfl, rfl, rfl, rfl, trivial⟩ fun a hK => ?_
      refine wp_cond_false (hK.get rfl) ?_
      refine wp_skip ?_
      refine wp_seq ?_
      refine region_go (lst := [0, 1, 2]) (by kernel_rfl) ?_
      refine stepM hK 29 0 (by kernel_rfl) (.inl rfl) rfl fun a hK => ?_
      refine stepRet hK hM 30 #[Str l] (.int .i64 (((signLen l) : Nat) : Int)) (by kernel_rfl) (run_callE en_lex_sign rfl rfl (by kernel_rfl)) (lex_sign l _) fun a w hK hM => ?_
      refine stepM hK 7 30 (by kernel_rfl) (.inr rfl) rfl fun a hK => ?_
      refine region_done hK [(7, .int .i64 (((signLen l) : Nat) : Int)), (21, .bool false), (8, .bool false), (5, .bool false), (4, .pointer (some ⟨b1, 0, none⟩)), (0, Str l), (1, .map (some b))] ⟨rfl, rfl, rfl, rfl, rfl, rfl, rfl, trivial⟩ fun a hK => ?_
      refine wp_seq ?_
      refine region_go (lst := [0, 1, 2, 3, 4, 5, 6, 7]) (by kernel_rfl) ?_
      refine stepM hK 31 0 (by kernel_rfl) (.inl rfl) rfl fun a hK => ?_
      refine stepM hK 32 7 (by kernel_rfl) (.inl rfl) rfl fun a hK => ?_
      refine stepP hK 33 (Str (l.take (signLen l))) (by kernel_rfl) (run_slcHi (j := (signLen l)) rfl rfl rfl (by omega)) fun a hK => ?_
      refine stepRet hK hM 34 #[.int .i64 4, Str (l.take (signLen l))] (.agg #[.int .i64 4, Str (l.take (signLen l)), .int .i64 0, .int .i64 0]) (by kernel_rfl) (run_callE en_lex_token rfl rfl (by kernel_rfl)) (lex_token 4 (l.take (signLen l)) (by first | omega | (rw [List.length_drop]; omega) | (rw [List.length_take]; omega) | (rw [List.length_take, List.length_drop]; omega)) _) fun a w hK hM => ?_
      refine stepM hK 35 7 (by kernel_rfl) (.inl rfl) rfl fun a hK => ?_
      by_cases h5 : (0 : Int) < (((signLen l) : Nat) : Int)
      · refine stepP hK 36 (.bool true) (by kernel_rfl) (okBool (b := (decide ((0 : Int) < (((signLen l) : Nat) : Int)))) (by kernel_rfl) (decide_eq_true h5)) fun a hK => ?_
        refine stepStore hK hM 0 [.int .i64 4, Str (l.take (signLen l)), .int .i64 0, .int .i64 0] (by kernel_rfl) rfl rfl rfl rfl (by kernel_rfl) fun w hM => ?_
        replace hM := hM.to [.row b1 35 [.int .i64 4, Str (l.take (signLen l)), .int .i64 0, .int .i64 0]] (by kernel_rfl)
        refine stepM hK 5 36 (by kernel_rfl) (.inr rfl) rfl fun a hK => ?_
        refine region_done hK [(5, .bool true), (7, .int .i64 (((signLen l) : Nat) : Int)), (21, .bool false), (8, .bool false), (4, .pointer (some ⟨b1, 0, none⟩)), (0, Str l), (1, .map (some b))] ⟨rfl, rfl, rfl, rfl, rfl, rfl, rfl, trivial⟩ fun a hK => ?_
        refine wp_ret ?_
        rcases hs : signAt l with _ | q9
        · exact absurd h5 (by unfold signLen; rw [hs]; decide)
        · exact ret_ct hK rfl rfl ((hM.row 0 rfl).cells 0 4) (u := (.agg #[.int .i64 4, Str (l.take (signLen l)), .int .i64 0, .int .i64 0])) (by kernel_rfl) (v := .bool true) rfl ⟨by unfold firstV; rw [one_sign hc2 h3 h4, hs, show signLen l = q9.length by unfold signLen; rw [hs], (sign_pre hs).1]; rfl, hM.below⟩
      · refine stepP hK 36 (.bool false) (by kernel_rfl) (okBool (b := (decide ((0 : Int) < (((signLen l) : Nat) : Int)))) (by kernel_rfl) (decide_eq_false h5)) fun a hK => ?_
        refine stepStore hK hM 0 [.int .i64 4, Str (l.take (signLen l)), .int .i64 0, .int .i64 0] (by kernel_rfl) rfl rfl rfl rfl (by kernel_rfl) fun w hM => ?_
        replace hM := hM.to [.row b1 35 [.int .i64 4, Str (l.take (signLen l)), .int .i64 0, .int .i64 0]] (by kernel_rfl)
        refine stepM hK 5 36 (by kernel_rfl) (.inr rfl) rfl fun a hK => ?_
        refine region_done hK [(5, .bool false), (7, .int .i64 (((signLen l) : Nat) : Int)), (21, .bool false), (8, .bool false), (4, .pointer (some ⟨b1, 0, none⟩)), (0, Str l), (1, .map (some b))] ⟨rfl, rfl, rfl, rfl, rfl, rfl, rfl, trivial⟩ fun a hK => ?_
        refine wp_ret ?_
        rcases hs : signAt l with _ | q9
        · exact ret_ct hK rfl rfl ((hM.row 0 rfl).cells 0 4) (u := (.agg #[.int .i64 4, Str (l.take (signLen l)), .int .i64 0, .int .i64 0])) (by kernel_rfl) (v := .bool false) rfl ⟨by unfold firstV; rw [one_sign hc2 h3 h4, hs, show signLen l = 0 by unfold signLen; rw [hs], badK_not hc2 h4]; rfl, hM.below⟩
        · exact absurd (show (0 : Int) < ((signLen l : Nat) : Int) by unfold signLen; rw [hs]; have := (sign_pre hs).2.1; simp only; omega) h5
theorem en_lex_first : Enters Tryd.prog 25 := enters_of Tryd.func25 (by kernel_rfl) rfl
end Go.Proofs.YtbcfggdifljacaaDoor
