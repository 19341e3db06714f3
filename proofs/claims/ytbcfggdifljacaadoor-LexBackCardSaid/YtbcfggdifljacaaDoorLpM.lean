/-
  LexBack: tokens put together with blanks are the same tokens; each byte stands in one of them, in a remark, or is a blank.
-/
import Derived.Test.YtbcfggdifljacaaDoorLpL
namespace Go.Proofs.YtbcfggdifljacaaDoor
open Go Go.RowKit

/-- The text of tokens put together. -/
def jtx (ts : List TkAt) : List UInt8 := joinT ((ts.map tk4).map (·.2.1))
/-- The same tokens, one blank behind each. -/
def reAt : Nat → List TkAt → List TkAt
  | _, [] => []
  | k, t :: r => (t.1, k) :: reAt (k + t.1.2.1.length + 1) r
def flatB (ts : List TkAt) : List UInt8 := ts.flatMap fun t => t.1.2.1 ++ [32]
theorem jtx_end (ts : List TkAt) (l : List UInt8) : jtx (ts ++ [endT l]) = flatB ts := by
  have key : ∀ (x : List UInt8) (r : List (List UInt8)), joinT (x :: (r ++ [[]])) = (x :: r).flatMap fun y => y ++ [32] := by
    intro x r
    induction r generalizing x with
    | nil => simp [joinT]
    | cons y r ih =>
      have h := ih y
      show x ++ (y :: (r ++ [[]])).flatMap (fun y => 32 :: y) = (x ++ [32]) ++ (y :: r).flatMap fun y => y ++ [32]
      rw [← h]
      show x ++ ((32 :: y) ++ (r ++ [[]]).flatMap fun y => 32 :: y) = (x ++ [32]) ++ (y ++ (r ++ [[]]).flatMap fun y => 32 :: y)
      simp
  unfold jtx flatB
  rw [List.map_append, List.map_append]
  cases ts with
  | nil => rfl
  | cons t r =>
    have h := key (t.1.2.1) ((r.map tk4).map (·.2.1))
    show joinT (t.1.2.1 :: (((r.map tk4).map (·.2.1)) ++ [[]])) = _
    rw [h]
    simp [List.flatMap_map, tk4]
theorem sign_again {r q b : List UInt8} (h : signAt r = some q) : signAt (q ++ 32 :: b) = some q := by
  unfold signAt at h ⊢
  rw [List.find?_eq_some_iff_append] at h ⊢
  obtain ⟨h1, x1, x2, h2, h3⟩ := h
  have hs : ∀ p ∈ signL, (32 : UInt8) ∉ p := by decide
  have hq : q ∈ signL := by rw [h2]; simp
  refine ⟨by rw [pre_stop q q (hs q hq), List.isPrefixOf_iff_prefix]; exact List.prefix_rfl, x1, x2, h2, fun p hp => ?_⟩
  have hp2 : p ∈ signL := by rw [h2]; exact List.mem_append_left _ hp
  rw [pre_stop p q (hs p hp2)]
  have := h3 p hp
  rw [Bool.not_eq_true'] at this ⊢
  rw [← Bool.not_eq_true, List.isPrefixOf_iff_prefix] at this ⊢
  rw [List.isPrefixOf_iff_prefix] at h1
  exact fun e => this (e.trans h1)
theorem sign_head {r q : List UInt8} (h : signAt r = some q) : ∃ c q', q = c :: q' ∧ isLetter c = false ∧ isDigit c = false ∧ isBlankB c = false ∧ c ≠ 47 := by
  have hq := List.mem_of_find?_eq_some h
  have hs : ∀ q ∈ signL, (match q with | [] => false | c :: _ => !isLetter c && !isDigit c && !isBlankB c && c != 47) = true := by decide
  have := hs q hq
  cases q with
  | nil => cases this
  | cons c q' => simp at this; exact ⟨c, q', rfl, this.1.1.1, this.1.1.2, this.1.2, this.2⟩
theorem skip_head {c : UInt8} {r : List UInt8} (h1 : isBlankB c = false) (h2 : c ≠ 47) : skip1 (c :: r) = none := by
  unfold skip1; simp only
  rw [if_neg (by rw [h1]; decide), if_neg]
  show ¬ ((47 == c) && _) = true
  rw [beq_eq_false_iff_ne.2 (Ne.symm h2)]; simp
theorem letter_not {c : UInt8} (h : isLetter c = true) : isBlankB c = false ∧ c ≠ 47 := by
  refine ⟨?_, ?_⟩
  · unfold isLetter at h; unfold isBlankB; simp at h ⊢; omega
  · rintro rfl; cases h
theorem digit_not {c : UInt8} (h : isDigit c = true) : isBlankB c = false ∧ c ≠ 47 ∧ isLetter c = false := by
  refine ⟨?_, ?_, ?_⟩
  · unfold isDigit at h; unfold isBlankB; simp at h ⊢; omega
  · rintro rfl; cases h
  · unfold isDigit at h; unfold isLetter; simp at h ⊢; omega
theorem tw_self (p : UInt8 → Bool) (l : List UInt8) : (l.takeWhile p).takeWhile p = l.takeWhile p :=
  takeWhile_all fun _ c _ hc => List.all_eq_true.1 (List.all_takeWhile (p := p) (l := l)) c (List.mem_of_getElem? hc)
theorem one_again {r b : List UInt8} {t : Tk} (h : oneOf r = some t) : oneOf (t.2.1 ++ 32 :: b) = some t ∧ skip1 (t.2.1 ++ 32 :: b) = none := by
  cases r with
  | nil => cases h
  | cons c r =>
    unfold oneOf at h
    simp only at h
    split at h
    · rename_i hl
      obtain rfl := Option.some.inj h
      have e1 : (c :: r).takeWhile wordB = c :: r.takeWhile wordB := by rw [List.takeWhile_cons, if_pos (by unfold wordB; rw [hl]; rfl)]
      have e2 : (((c :: r).takeWhile wordB) ++ 32 :: b).takeWhile wordB = (c :: r).takeWhile wordB := by rw [tw_stop (by decide), tw_self]
      refine ⟨?_, ?_⟩
      · rw [one_word (c := c) (by rw [e1]; rfl) hl, e2]
      · simp only; rw [e1]; exact skip_head (letter_not hl).1 (letter_not hl).2
    · rename_i hl
      have hl' : isLetter c = false := by simpa using hl
      split at h
      · rename_i hd
        obtain ⟨n, hn, rfl⟩ := Option.map_eq_some_iff.1 h
        have e1 : (c :: r).takeWhile isDigit = c :: r.takeWhile isDigit := by rw [List.takeWhile_cons, if_pos hd]
        have e2 : (((c :: r).takeWhile isDigit) ++ 32 :: b).takeWhile isDigit = (c :: r).takeWhile isDigit := by rw [tw_stop (by decide), tw_self]
        refine ⟨?_, ?_⟩
        · rw [one_num (c := c) (by rw [e1]; rfl) hl' hd, e2]
          have e3 : numAt ((c :: r).takeWhile isDigit ++ 32 :: b) = some n := by
            unfold numAt at hn ⊢
            rw [e2, List.drop_left]
            split at hn
            · rename_i hx
              rw [Bool.and_eq_true] at hx
              rw [if_pos (by rw [hx.1]; rfl)]; exact hn
            · cases hn
          rw [e3]; rfl
        · simp only; rw [e1]; exact skip_head (digit_not hd).1 (digit_not hd).2.1
      · obtain ⟨q, hq, rfl⟩ := Option.map_eq_some_iff.1 h
        obtain ⟨c', q', rfl, h1, h2, h3, h4⟩ := sign_head hq
        exact ⟨by rw [one_sign (c := c') rfl h1 h2, sign_again hq]; rfl, skip_head h3 h4⟩
/-- Each of these begins some rest. -/
def AllOne (ts : List TkAt) : Prop := ∀ t ∈ ts, ∃ r, oneOf r = some t.1
theorem lexF_one : ∀ (n at_ : Nat) (r : List UInt8) (ts : List TkAt), lexF n at_ r = .inr ts → AllOne ts := by
  intro n
  induction n with
  | zero => intro at_ r ts h; obtain rfl := Sum.inr.inj h; intro t ht; cases ht
  | succ n ih =>
    intro at_ r ts h
    cases r with
    | nil => obtain rfl := Sum.inr.inj h; intro t ht; cases ht
    | cons c r =>
      unfold lexF at h
      simp only at h
      split at h
      · exact ih _ _ _ h
      · split at h
        · rename_i t ho
          cases hq : lexF n (at_ + t.2.1.length) (List.drop t.2.1.length (c :: r)) with
          | inl e => rw [hq] at h; cases h
          | inr us =>
            rw [hq] at h
            obtain rfl := Sum.inr.inj h
            intro u hu
            rcases List.mem_cons.1 hu with rfl | hu
            · exact ⟨_, ho⟩
            · exact ih _ _ _ hq u hu
        · cases h
theorem back_flat : ∀ (ts : List TkAt) (k : Nat), AllOne ts → lexL k (flatB ts) = .inr (reAt k ts) := by
  intro ts
  induction ts with
  | nil => intro k _; rfl
  | cons t ts ih =>
    intro k h
    obtain ⟨r, hr⟩ := h t List.mem_cons_self
    have e : flatB (t :: ts) = t.1.2.1 ++ 32 :: flatB ts := by simp [flatB]
    obtain ⟨h1, h2⟩ := one_again (b := flatB ts) hr
    rw [e, lexL_tok h2 h1, List.drop_left, lexL_skip (k := 1) (show skip1 (32 :: flatB ts) = some 1 from rfl)]
    show consT (t.1, k) (lexL (k + t.1.2.1.length + 1) (flatB ts)) = _
    rw [ih _ (fun u hu => h u (List.mem_cons_of_mem _ hu))]; rfl
theorem back {l : List UInt8} {ts : List TkAt} (h : lexL 0 l = .inr ts) : lexL 0 (jtx (ts ++ [endT l])) = .inr (reAt 0 ts) := by
  rw [jtx_end]; exact back_flat ts 0 (lexF_one _ _ _ _ h)
theorem flat_len : ∀ (n at_ : Nat) (r : List UInt8) (ts : List TkAt), lexF n at_ r = .inr ts → r.length ≤ n → (flatB ts).length ≤ 2 * r.length := by
  intro n
  induction n with
  | zero => intro at_ r ts h _; obtain rfl := Sum.inr.inj h; exact Nat.zero_le _
  | succ n ih =>
    intro at_ r ts h hn
    cases r with
    | nil => obtain rfl := Sum.inr.inj h; exact Nat.zero_le _
    | cons c r =>
      unfold lexF at h
      simp only at h
      split at h
      · rename_i k hs
        have hp := skip1_pos hs
        have := ih _ _ _ h (by rw [List.length_drop]; omega)
        rw [List.length_drop] at this; omega
      · split at h
        · rename_i t ho
          have hp := one_len ho
          cases hq : lexF n (at_ + t.2.1.length) (List.drop t.2.1.length (c :: r)) with
          | inl e => rw [hq] at h; cases h
          | inr us =>
            rw [hq] at h
            obtain rfl := Sum.inr.inj h
            have := ih _ _ _ hq (by rw [List.length_drop]; omega)
            rw [List.length_drop] at this
            have e : (flatB ((t, at_) :: us)).length = t.2.1.length + 1 + (flatB us).length := by simp [flatB]; omega
            omega
        · cases h
theorem jtx_len {l : List UInt8} {ts : List TkAt} (h : lexL 0 l = .inr ts) : (jtx (ts ++ [endT l])).length ≤ 2 * l.length := by
  rw [jtx_end]; exact flat_len _ _ _ _ h (Nat.le_refl _)
theorem reAt_len : ∀ (ts : List TkAt) (k : Nat), (reAt k ts).length = ts.length := by
  intro ts
  induction ts with
  | nil => intro k; rfl
  | cons t ts ih => intro k; show (reAt _ ts).length + 1 = _; rw [ih]; rfl
theorem reAt_get : ∀ (ts : List TkAt) (k i : Nat) (t u : TkAt), ts[i]? = some t → (reAt k ts)[i]? = some u → u.1 = t.1 := by
  intro ts
  induction ts with
  | nil => intro k i t u h; simp at h
  | cons x ts ih =>
    intro k i t u h h2
    cases i with
    | zero => obtain rfl := Option.some.inj h; obtain rfl := Option.some.inj h2; rfl
    | succ i => exact ih _ i t u (by simpa using h) (by simpa [reAt] using h2)
theorem back_same {ts : List TkAt} {l m : List UInt8} {i : Nat} {t u : TkAt} (h : (ts ++ [endT l])[i]? = some t) (h2 : (reAt 0 ts ++ [endT m])[i]? = some u) : u.1 = t.1 := by
  rcases Nat.lt_or_ge i ts.length with hi | hi
  · rw [List.getElem?_append_left hi] at h
    rw [List.getElem?_append_left (by rw [reAt_len]; exact hi)] at h2
    exact reAt_get ts 0 i t u h h2
  · rw [List.getElem?_append_right hi] at h
    rw [List.getElem?_append_right (by rw [reAt_len]; exact hi), reAt_len] at h2
    cases hk : i - ts.length with
    | zero => rw [hk] at h h2; obtain rfl := Option.some.inj h; obtain rfl := Option.some.inj h2; rfl
    | succ k => rw [hk] at h; simp at h
theorem last_eq {ts : List TkAt} {l : List UInt8} {t : TkAt} (h : (ts ++ [endT l])[(ts ++ [endT l]).length - 1]? = some t) : t = endT l := by
  rw [List.length_append, List.length_singleton, Nat.add_sub_cancel, List.getElem?_append_right (Nat.le_refl _), Nat.sub_self] at h
  exact (Option.some.inj h).symm
theorem one_text {r : List UInt8} {t : Tk} (h : oneOf r = some t) : r.take t.2.1.length = t.2.1 := by
  cases r with
  | nil => cases h
  | cons c r =>
    unfold oneOf at h
    simp only at h
    split at h
    · obtain rfl := Option.some.inj h; exact (List.prefix_iff_eq_take.1 (List.takeWhile_prefix _)).symm
    · split at h
      · obtain ⟨n, _, rfl⟩ := Option.map_eq_some_iff.1 h; exact (List.prefix_iff_eq_take.1 (List.takeWhile_prefix _)).symm
      · obtain ⟨q, hq, rfl⟩ := Option.map_eq_some_iff.1 h; exact (sign_pre hq).1
/-- What is known of the token that comes next. -/
theorem tok_facts {l : List UInt8} {ts : List TkAt} {i q : Nat} {t : TkAt} (hq : q ≤ l.length) (hx : i ≤ ts.length → lexL q (l.drop q) = .inr (ts.drop i)) (ht : (ts ++ [endT l])[i]? = some t) :
    t.2 = q + gapL (l.drop q) ∧ t.2 + t.1.2.1.length ≤ l.length ∧ (l.drop t.2).take t.1.2.1.length = t.1.2.1 ∧ (i + 1 ≤ ts.length → lexL (t.2 + t.1.2.1.length) (l.drop (t.2 + t.1.2.1.length)) = .inr (ts.drop (i + 1))) ∧ i ≤ ts.length := by
  have hi : i ≤ ts.length := by have := (List.getElem?_eq_some_iff.1 ht).1; rw [List.length_append] at this; simp at this; omega
  have hg := gapL_le (l.drop q)
  rw [List.length_drop] at hg
  have h1 := hx hi
  rw [lexL_gap, List.drop_drop] at h1
  have ha := gap_after (l.drop q)
  rw [List.drop_drop] at ha
  rcases Nat.lt_or_ge i ts.length with hlt | hge
  · rw [List.getElem?_append_left hlt] at ht
    have hd : ts.drop i = t :: ts.drop (i + 1) := by
      rw [List.drop_eq_getElem_cons hlt]
      congr 1
      rw [List.getElem?_eq_getElem hlt] at ht
      exact Option.some.inj ht
    rw [hd] at h1
    cases hr : l.drop (q + gapL (l.drop q)) with
    | nil => rw [hr] at h1; cases h1
    | cons c r =>
      cases ho : oneOf (l.drop (q + gapL (l.drop q))) with
      | none => rw [lexL_bad (by rw [hr]; simp) ha ho] at h1; cases h1
      | some u =>
        rw [lexL_tok ha ho] at h1
        have hp := one_len ho
        rw [List.length_drop] at hp
        cases hq2 : lexL (q + gapL (l.drop q) + u.2.1.length) ((l.drop (q + gapL (l.drop q))).drop u.2.1.length) with
        | inl e => rw [hq2] at h1; cases h1
        | inr us =>
          rw [hq2] at h1
          have h2 := Sum.inr.inj h1
          obtain ⟨h3, h4⟩ := List.cons.inj h2
          subst h3
          refine ⟨rfl, by simp only; omega, one_text ho, fun _ => ?_, hi⟩
          rw [List.drop_drop] at hq2
          rw [← h4]; exact hq2
  · have hie : i = ts.length := by omega
    subst hie
    rw [List.getElem?_append_right (Nat.le_refl _), Nat.sub_self] at ht
    obtain rfl := Option.some.inj ht
    rw [List.drop_length] at h1
    have he : l.drop (q + gapL (l.drop q)) = [] := by
      cases hr : l.drop (q + gapL (l.drop q)) with
      | nil => rfl
      | cons c r =>
        have hne : l.drop (q + gapL (l.drop q)) ≠ [] := by rw [hr]; simp
        cases ho : oneOf (l.drop (q + gapL (l.drop q))) with
        | none => rw [lexL_bad hne ha ho] at h1; cases h1
        | some u =>
          rw [lexL_tok ha ho] at h1
          cases hq2 : lexL (q + gapL (l.drop q) + u.2.1.length) ((l.drop (q + gapL (l.drop q))).drop u.2.1.length) with
          | inl e => rw [hq2] at h1; cases h1
          | inr us => rw [hq2] at h1; cases h1
    have hl := congrArg List.length he
    rw [List.length_drop, List.length_nil] at hl
    exact ⟨by show l.length = _; omega, Nat.le_refl _, by simp [endT], fun h => absurd h (by omega), Nat.le_refl _⟩
/-- From here blanks and remarks lead to place e; in a remark, or not. -/
def GapSt (l : List UInt8) (e : Nat) (rm : Bool) (q : Nat) : Prop := if rm = true then e = (q + runL inLineB (l.drop q)) + gapL (l.drop (q + runL inLineB (l.drop q))) else e = q + gapL (l.drop q)
def rmN (l : List UInt8) (q : Nat) (c : UInt8) (rm : Bool) : Bool := (rm && !(decide ((((c.toNat : Nat) : Int) : Int) = 10))) || (decide ((((c.toNat : Nat) : Int) : Int) = 47) && match l[q + 1]? with
  | some d => decide ((((d.toNat : Nat) : Int) : Int) = 47)
  | none => false)
theorem run_step {p : UInt8 → Bool} {l : List UInt8} {q : Nat} {c : UInt8} (hc : l[q]? = some c) (h : p c = true) : runL p (l.drop q) = 1 + runL p (l.drop (q + 1)) := by
  obtain ⟨hk, rfl⟩ := List.getElem?_eq_some_iff.1 hc
  rw [List.drop_eq_getElem_cons hk]; unfold runL; rw [List.takeWhile_cons, if_pos h]; simp; omega
theorem run_stop {p : UInt8 → Bool} {l : List UInt8} {q : Nat} {c : UInt8} (hc : l[q]? = some c) (h : p c = false) : runL p (l.drop q) = 0 := by
  obtain ⟨hk, rfl⟩ := List.getElem?_eq_some_iff.1 hc
  rw [List.drop_eq_getElem_cons hk]; unfold runL; rw [List.takeWhile_cons, if_neg (by rw [h]; decide)]; rfl
theorem two_iff {l : List UInt8} {q : Nat} {c : UInt8} (hc : l[q]? = some c) : List.isPrefixOf [47, 47] (l.drop q) = (decide ((((c.toNat : Nat) : Int) : Int) = 47) && match l[q + 1]? with
    | some d => decide ((((d.toNat : Nat) : Int) : Int) = 47)
    | none => false) := by
  by_cases h1 : ((c.toNat : Nat) : Int) = 47
  · rw [decide_eq_true h1, Bool.true_and]
    cases hd : l[q + 1]? with
    | none => exact two_no2 (by rw [List.getElem?_eq_none_iff] at hd; omega)
    | some d =>
      simp only
      by_cases h2 : ((d.toNat : Nat) : Int) = 47
      · rw [decide_eq_true h2]; exact two_yes hc hd h1 h2
      · rw [decide_eq_false h2]; exact two_no3 hc hd h2
  · rw [decide_eq_false h1, Bool.false_and]; exact two_no1 hc h1
theorem gap_start {l : List UInt8} {e q : Nat} (h : e = q + gapL (l.drop q)) : GapSt l e false q := by unfold GapSt; rw [if_neg (by decide)]; exact h
/-- The steps from a place without a remark. -/
theorem gap_plain {l : List UInt8} {e q : Nat} {c : UInt8} (h : e = q + gapL (l.drop q)) (hlt : q < e) (hc : l[q]? = some c) : (rmN l q c false = true ∨ isBlankB c = true) ∧ GapSt l e (rmN l q c false) (q + 1) := by
  have hr : rmN l q c false = List.isPrefixOf [47, 47] (l.drop q) := by rw [two_iff hc]; unfold rmN; rw [Bool.false_and, Bool.false_or]
  cases hs : skip1 (l.drop q) with
  | none => rw [gapL_stop hs] at h; omega
  | some k =>
    have hg := gapL_skip hs
    rw [List.drop_drop] at hg
    cases hb : isBlankB c with
    | true =>
      have hk := skip1_blank hc hb
      rw [hs] at hk
      obtain rfl := Option.some.inj hk
      have hn : List.isPrefixOf [47, 47] (l.drop q) = false := two_no1 hc (fun e => by
        have := byte_eq (n := 47) (by decide) e
        rw [this] at hb; revert hb; decide)
      rw [hr, hn]
      refine ⟨.inr rfl, ?_⟩
      unfold GapSt; rw [if_neg (by decide)]; omega
    | false =>
      cases hp : List.isPrefixOf [47, 47] (l.drop q) with
      | false => rw [skip1_token hc hb hp] at hs; cases hs
      | true =>
        have hk := skip1_remark hc hb hp
        rw [hs] at hk
        obtain rfl := Option.some.inj hk
        have h47 : inLineB c = true := by
          rw [two_iff hc, Bool.and_eq_true] at hp
          have := of_decide_eq_true hp.1
          rw [byte_eq (n := 47) (by decide) this]; decide
        have hrs := run_step (p := inLineB) hc h47
        rw [hr]
        refine ⟨.inl hp, ?_⟩
        rw [hp]
        unfold GapSt; rw [if_pos rfl]
        rw [hrs, ← Nat.add_assoc] at hg
        omega
theorem gap_next {l : List UInt8} {e q : Nat} {rm : Bool} {c : UInt8} (h : GapSt l e rm q) (hlt : q < e) (hc : l[q]? = some c) : (rmN l q c rm = true ∨ isBlankB c = true) ∧ GapSt l e (rmN l q c rm) (q + 1) := by
  cases rm with
  | false => exact gap_plain (by unfold GapSt at h; rwa [if_neg (by decide)] at h) hlt hc
  | true =>
    unfold GapSt at h
    rw [if_pos rfl] at h
    cases hi : inLineB c with
    | true =>
      have hn : rmN l q c true = true := by unfold rmN; rw [Bool.true_and, show (!(decide ((((c.toNat : Nat) : Int) : Int) = 10))) = true from hi, Bool.true_or]
      rw [hn]
      refine ⟨.inl rfl, ?_⟩
      have hrs := run_step (p := inLineB) hc hi
      unfold GapSt; rw [if_pos rfl]
      rw [hrs, ← Nat.add_assoc] at h
      exact h
    | false =>
      have hrs := run_stop (p := inLineB) hc hi
      rw [hrs, Nat.add_zero] at h
      have hn : rmN l q c true = rmN l q c false := by unfold rmN; rw [Bool.true_and, Bool.false_and, show (!(decide ((((c.toNat : Nat) : Int) : Int) = 10))) = false from hi]
      rw [hn]; exact gap_plain h hlt hc
section
variable {l : List UInt8} {q : Nat} {c d : UInt8} {rm : Bool}
theorem rm_keep (h1 : rm = true) (h2 : (!(decide ((((c.toNat : Nat) : Int) : Int) = 10))) = true) : rmN l q c rm = true := by unfold rmN; rw [h1, h2]; rfl
theorem rm_off (h : rm = false ∨ (!(decide ((((c.toNat : Nat) : Int) : Int) = 10))) = false) : (rm && !(decide ((((c.toNat : Nat) : Int) : Int) = 10))) = false := by
  rcases h with h | h
  · rw [h]; rfl
  · rw [h, Bool.and_false]
theorem rm_new (h1 : ((c.toNat : Nat) : Int) = 47) (h2 : l[q + 1]? = some d) (h3 : ((d.toNat : Nat) : Int) = 47) : rmN l q c rm = true := by unfold rmN; rw [decide_eq_true h1, h2]; simp only; rw [decide_eq_true h3, Bool.true_and, Bool.or_true]
theorem rm_no1 (h : rm = false ∨ (!(decide ((((c.toNat : Nat) : Int) : Int) = 10))) = false) (h1 : ¬ ((c.toNat : Nat) : Int) = 47) : rmN l q c rm = false := by unfold rmN; rw [rm_off h, decide_eq_false h1]; rfl
theorem rm_no2 (h : rm = false ∨ (!(decide ((((c.toNat : Nat) : Int) : Int) = 10))) = false) (h1 : ¬ q + 1 < l.length) : rmN l q c rm = false := by unfold rmN; rw [rm_off h, List.getElem?_eq_none (by omega)]; simp
theorem rm_no3 (h : rm = false ∨ (!(decide ((((c.toNat : Nat) : Int) : Int) = 10))) = false) (h2 : l[q + 1]? = some d) (h3 : ¬ ((d.toNat : Nat) : Int) = 47) : rmN l q c rm = false := by unfold rmN; rw [rm_off h, h2]; simp only; rw [decide_eq_false h3, Bool.and_false]; rfl
theorem not_blank (h1 : (!(decide ((((c.toNat : Nat) : Int) : Int) = 32))) = true) (h2 : (!(decide ((((c.toNat : Nat) : Int) : Int) = 9))) = true) (h3 : (!(decide ((((c.toNat : Nat) : Int) : Int) = 10))) = true) (h4 : (!(decide ((((c.toNat : Nat) : Int) : Int) = 13))) = true) (h : false = true ∨ isBlankB c = true) : False := by
  rcases h with h | h
  · cases h
  · unfold isBlankB at h
    rw [Bool.not_eq_true'] at h1 h2 h3 h4
    rw [h1, h2, h3, h4] at h; cases h
end
theorem ts_le3 {l : List UInt8} {ts : List TkAt} (h : lexL 0 l = .inr ts) (hl : l.length ≤ 3000) : (ts ++ [endT l]).length ≤ 3001 := by
  have := lexF_len _ _ _ _ h
  rw [List.length_append]; simp; omega
set_option maxRecDepth 100000 in
set_option maxHeartbeats 4000000 in
theorem back_yes (l : List UInt8) (w0 : World) (hE : ErrOk w0) (hlen : l.length ≤ 9223372036854775807) : Calls Tryd.prog 6 #[Str l] w0 (Ret w0 (.bool true)) := by
  refine calls_K (args := [Str l]) (n := 185) (env := [(0, Str l)]) Tryd.func6 rfl rfl rfl ⟨rfl, trivial⟩ fun a w hK hM => ?_
  refine wp_seq ?_
  refine region_go (lst := [0]) (by kernel_rfl) ?_
  refine stepP hK 2 (.bool false) (by kernel_rfl) (by kernel_rfl) fun a hK => ?_
  refine region_done hK [(2, .bool false), (0, Str l)] ⟨rfl, rfl, trivial⟩ fun a hK => ?_
  refine wp_seq ?_
  refine wp_seq ?_
  refine region_go (lst := [0, 1]) (by kernel_rfl) ?_
  refine stepRet hK hM 13 #[] (.bool true) (by kernel_rfl) (run_callE en_cantileverlaw02_lives rfl rfl (by kernel_rfl)) (law_lives _ (hE.on hM.below)) fun a w hK hM => ?_
  refine stepP hK 14 (.bool false) (by kernel_rfl) (by kernel_rfl) fun a hK => ?_
  refine region_done hK [(14, .bool false), (2, .bool false), (0, Str l)] ⟨rfl, rfl, rfl, trivial⟩ fun a hK => ?_
  refine wp_cond_false (hK.get rfl) ?_
  refine wp_skip ?_
  refine wp_seq ?_
  refine wp_seq ?_
  refine region_go (lst := [0, 1, 2]) (by kernel_rfl) ?_
  refine stepM hK 15 0 (by kernel_rfl) (.inl rfl) rfl fun a hK => ?_
  refine stepP hK 16 (.int .i64 ((l.length : Nat) : Int)) (by kernel_rfl) (by kernel_rfl) fun a hK => ?_
  by_cases h1 : (3000 : Int) < ((l.length : Nat) : Int)
  · refine stepP hK 17 (.bool true) (by kernel_rfl) (okBool (b := (decide ((3000 : Int) < ((l.length : Nat) : Int)))) (by kernel_rfl) (decide_eq_true h1)) fun a hK => ?_
    refine region_done hK [(17, .bool true), (14, .bool false), (2, .bool false), (0, Str l)] ⟨rfl, rfl, rfl, rfl, trivial⟩ fun a hK => ?_
    refine wp_cond_true (hK.get rfl) ?_
    refine wp_seq ?_
    refine region_go (lst := [0]) (by kernel_rfl) ?_
    refine stepP hK 2 (.bool true) (by kernel_rfl) (by kernel_rfl) fun a hK => ?_
    refine region_done hK [(2, .bool true), (17, .bool true), (14, .bool false), (0, Str l)] ⟨rfl, rfl, rfl, rfl, trivial⟩ fun a hK => ?_
    refine wp_ret ?_
    exact ret_t hK rfl (u := (.bool true)) rfl (⟨rfl, hM.below⟩)
  · refine stepP hK 17 (.bool false) (by kernel_rfl) (okBool (b := (decide ((3000 : Int) < ((l.length : Nat) : Int)))) (by kernel_rfl) (decide_eq_false h1)) fun a hK => ?_
    refine region_done hK [(17, .bool false), (14, .bool false), (2, .bool false), (0, Str l)] ⟨rfl, rfl, rfl, rfl, trivial⟩ fun a hK => ?_
    refine wp_cond_false (hK.get rfl) ?_
    refine wp_skip ?_
    refine wp_seq ?_
    refine region_go (lst := [0, 1, 2, 3, 4, 5, 6, 7]) (by kernel_rfl) ?_
    refine stepM hK 19 0 (by kernel_rfl) (.inl rfl) rfl fun a hK => ?_
    rcases hx2 : lexL 0 l with p2 | ts2
    · refine stepRet hK hM 20 #[Str l] (.tuple #[.slice none 0 0, .agg #[.int .i64 4, .int .i64 ((p2 : Nat) : Int)]]) (by kernel_rfl) (run_callE en_lex_All rfl rfl (by kernel_rfl)) (All_bad (lex_All l _ (hE.on hM.below) (by first | omega | decide | (simp; omega))) (by first | omega | (simp; omega)) hx2) fun a w hK hM => ?_
      refine stepM hK 18 20 (by kernel_rfl) (.inl rfl) rfl fun a hK => ?_
      refine stepP hK 21 (.slice none 0 0) (by kernel_rfl) (by kernel_rfl) fun a hK => ?_
      refine stepP hK 22 (.agg #[.int .i64 4, .int .i64 ((p2 : Nat) : Int)]) (by kernel_rfl) (by kernel_rfl) fun a hK => ?_
      refine stepAlloc hK hM 4 24 [.int .i64 0, .int .i64 0] (fun b => .pointer (some ⟨b, 0, none⟩)) (by kernel_rfl) (by kernel_rfl) fun b3 a w hK hM => ?_
      refine stepM hK 3 21 (by kernel_rfl) (.inr rfl) rfl fun a hK => ?_
      refine stepStore hK hM 0 [.int .i64 4, .int .i64 ((p2 : Nat) : Int)] (by kernel_rfl) rfl rfl rfl rfl (by kernel_rfl) fun w hM => ?_
      replace hM := hM.to [.row b3 24 [.int .i64 4, .int .i64 ((p2 : Nat) : Int)]] (by kernel_rfl)
      refine region_done hK [(3, .slice none 0 0), (4, .pointer (some ⟨b3, 0, none⟩)), (17, .bool false), (14, .bool false), (2, .bool false), (0, Str l)] ⟨rfl, rfl, rfl, rfl, rfl, rfl, trivial⟩ fun a hK => ?_
      refine wp_seq ?_
      refine wp_seq ?_
      refine region_go (lst := [0, 1, 2]) (by kernel_rfl) ?_
      refine stepLoad hK 23 (.agg #[.int .i64 4, .int .i64 ((p2 : Nat) : Int)]) (by kernel_rfl) rfl rfl ((hM.row 0 rfl).cells 0 2) (by kernel_rfl) fun a hK => ?_
      refine stepP hK 24 (.agg #[.int .i64 0, .int .i64 0]) (by kernel_rfl) (by kernel_rfl) fun a hK => ?_
      refine stepP hK 25 (.bool true) (by kernel_rfl) (okBool (run_neqFlt rfl rfl rfl) (by simp)) fun a hK => ?_
      refine region_done hK [(25, .bool true), (3, .slice none 0 0), (4, .pointer (some ⟨b3, 0, none⟩)), (17, .bool false), (14, .bool false), (2, .bool false), (0, Str l)] ⟨rfl, rfl, rfl, rfl, rfl, rfl, rfl, trivial⟩ fun a hK => ?_
      refine wp_cond_true (hK.get rfl) ?_
      refine wp_seq ?_
      refine region_go (lst := [0, 1, 2, 3, 4, 5, 6, 7, 8]) (by kernel_rfl) ?_
      refine stepM hK 26 3 (by kernel_rfl) (.inl rfl) rfl fun a hK => ?_
      refine stepP hK 27 (.int .i64 0) (by kernel_rfl) (by kernel_rfl) fun a hK => ?_
      refine stepP hK 28 (.bool true) (by kernel_rfl) (by kernel_rfl) fun a hK => ?_
      refine stepM hK 29 28 (by kernel_rfl) (.inl rfl) rfl fun a hK => ?_
      refine stepP hK 30 (.pointer (some ⟨b3, 0, none⟩)) (by kernel_rfl) (by kernel_rfl) fun a hK => ?_
      refine stepLoad hK 31 (.int .i64 4) (by kernel_rfl) rfl rfl ((hM.row 0 rfl).cells 0 1) (by kernel_rfl) fun a hK => ?_
      refine stepP hK 32 (.bool true) (by kernel_rfl) (by kernel_rfl) fun a hK => ?_
      refine stepP hK 33 (.bool true) (by kernel_rfl) (by kernel_rfl) fun a hK => ?_
      refine stepM hK 2 33 (by kernel_rfl) (.inr rfl) rfl fun a hK => ?_
      refine region_done hK [(2, .bool true), (25, .bool true), (3, .slice none 0 0), (4, .pointer (some ⟨b3, 0, none⟩)), (17, .bool false), (14, .bool false), (0, Str l)] ⟨rfl, rfl, rfl, rfl, rfl, rfl, rfl, trivial⟩ fun a hK => ?_
      refine wp_ret ?_
      exact ret_t hK rfl (u := (.bool true)) rfl (⟨rfl, hM.below⟩)
    · refine stepCall hK hM 20 #[Str l] (by kernel_rfl) (run_callE en_lex_All rfl rfl (by kernel_rfl)) (All_good (lex_All l _ (hE.on hM.below) (by first | omega | decide | (simp; omega))) (by first | omega | (simp; omega)) hx2) ?_
      rintro ⟨g4, k5⟩ a w - hK hM
      refine stepM hK 18 20 (by kernel_rfl) (.inl rfl) rfl fun a hK => ?_
      refine stepP hK 21 (.slice (some ⟨g4, 0, none⟩) (ts2 ++ [endT l]).length k5) (by kernel_rfl) (by kernel_rfl) fun a hK => ?_
      refine stepP hK 22 (.agg #[.int .i64 0, .int .i64 0]) (by kernel_rfl) (by kernel_rfl) fun a hK => ?_
      refine stepAlloc hK hM 4 24 [.int .i64 0, .int .i64 0] (fun b => .pointer (some ⟨b, 0, none⟩)) (by kernel_rfl) (by kernel_rfl) fun b7 a w hK hM => ?_
      refine stepM hK 3 21 (by kernel_rfl) (.inr rfl) rfl fun a hK => ?_
      refine stepStore hK hM 0 [.int .i64 0, .int .i64 0] (by kernel_rfl) rfl rfl rfl rfl (by kernel_rfl) fun w hM => ?_
      replace hM := hM.to [.row b7 24 [.int .i64 0, .int .i64 0], .own 35 4 (.slice (some ⟨g4, 0, none⟩) (ts2 ++ [endT l]).length k5) (ts2 ++ [endT l]).length (cellsT (ts2 ++ [endT l]))] (by kernel_rfl)
      refine region_done hK [(3, .slice (some ⟨g4, 0, none⟩) (ts2 ++ [endT l]).length k5), (4, .pointer (some ⟨b7, 0, none⟩)), (17, .bool false), (14, .bool false), (2, .bool false), (0, Str l)] ⟨rfl, rfl, rfl, rfl, rfl, rfl, trivial⟩ fun a hK => ?_
      refine wp_seq ?_
      refine wp_seq ?_
      refine region_go (lst := [0, 1, 2]) (by kernel_rfl) ?_
      refine stepLoad hK 23 (.agg #[.int .i64 0, .int .i64 0]) (by kernel_rfl) rfl rfl ((hM.row 0 rfl).cells 0 2) (by kernel_rfl) fun a hK => ?_
      refine stepP hK 24 (.agg #[.int .i64 0, .int .i64 0]) (by kernel_rfl) (by kernel_rfl) fun a hK => ?_
      refine stepP hK 25 (.bool false) (by kernel_rfl) (okBool (run_neqFlt rfl rfl rfl) (by decide)) fun a hK => ?_
      refine region_done hK [(25, .bool false), (3, .slice (some ⟨g4, 0, none⟩) (ts2 ++ [endT l]).length k5), (4, .pointer (some ⟨b7, 0, none⟩)), (17, .bool false), (14, .bool false), (2, .bool false), (0, Str l)] ⟨rfl, rfl, rfl, rfl, rfl, rfl, rfl, trivial⟩ fun a hK => ?_
      refine wp_cond_false (hK.get rfl) ?_
      refine wp_skip ?_
      refine wp_seq ?_
      refine region_go (lst := [0, 1, 2, 3, 4, 5, 6, 7, 8]) (by kernel_rfl) ?_
      refine stepM hK 35 3 (by kernel_rfl) (.inl rfl) rfl fun a hK => ?_
      refine stepRet hK hM 36 #[.slice (some ⟨g4, 0, none⟩) (ts2 ++ [endT l]).length k5] (Str (jtx (ts2 ++ [endT l]))) (by kernel_rfl) (run_callE en_lex_Join rfl rfl (by kernel_rfl)) (lex_Join (ta := (ts2 ++ [endT l]).map tk4) _ (by rw [List.length_map]; exact Nat.le_trans (ts_le3 hx2 (by omega)) (by decide)) (by have := jtx_len hx2; unfold jtx at this; omega) (hM.sliceAt 1 rfl rfl)) fun a w hK hM => ?_
      have hxg := back hx2
      have hjl := jtx_len hx2
      have hts := ts_le3 hx2 (by omega)
      have hle1 : (ts2 ++ [endT l]).length = ts2.length + 1 := by simp
      have hle2 : (reAt 0 ts2 ++ [endT (jtx (ts2 ++ [endT l]))]).length = ts2.length + 1 := by simp [reAt_len]
      refine stepCall hK hM 37 #[Str (jtx (ts2 ++ [endT l]))] (by kernel_rfl) (run_callE en_lex_All rfl rfl (by kernel_rfl)) (All_good (lex_All (jtx (ts2 ++ [endT l])) _ (hE.on hM.below) (by first | omega | decide | (simp; omega))) (by first | omega | (simp; omega)) hxg) ?_
      rintro ⟨g8, k9⟩ a w - hK hM
      refine stepM hK 34 37 (by kernel_rfl) (.inl rfl) rfl fun a hK => ?_
      refine stepP hK 38 (.slice (some ⟨g8, 0, none⟩) ((reAt 0 ts2) ++ [endT (jtx (ts2 ++ [endT l]))]).length k9) (by kernel_rfl) (by kernel_rfl) fun a hK => ?_
      refine stepP hK 39 (.agg #[.int .i64 0, .int .i64 0]) (by kernel_rfl) (by kernel_rfl) fun a hK => ?_
      refine stepAlloc hK hM 6 24 [.int .i64 0, .int .i64 0] (fun b => .pointer (some ⟨b, 0, none⟩)) (by kernel_rfl) (by kernel_rfl) fun b11 a w hK hM => ?_
      refine stepM hK 5 38 (by kernel_rfl) (.inr rfl) rfl fun a hK => ?_
      refine stepStore hK hM 0 [.int .i64 0, .int .i64 0] (by kernel_rfl) rfl rfl rfl rfl (by kernel_rfl) fun w hM => ?_
      replace hM := hM.to [.row b11 24 [.int .i64 0, .int .i64 0], .own 35 4 (.slice (some ⟨g8, 0, none⟩) ((reAt 0 ts2) ++ [endT (jtx (ts2 ++ [endT l]))]).length k9) ((reAt 0 ts2) ++ [endT (jtx (ts2 ++ [endT l]))]).length (cellsT ((reAt 0 ts2) ++ [endT (jtx (ts2 ++ [endT l]))])), .row b7 24 [.int .i64 0, .int .i64 0], .own 35 4 (.slice (some ⟨g4, 0, none⟩) (ts2 ++ [endT l]).length k5) (ts2 ++ [endT l]).length (cellsT (ts2 ++ [endT l]))] (by kernel_rfl)
      refine region_done hK [(5, .slice (some ⟨g8, 0, none⟩) ((reAt 0 ts2) ++ [endT (jtx (ts2 ++ [endT l]))]).length k9), (6, .pointer (some ⟨b11, 0, none⟩)), (25, .bool false), (3, .slice (some ⟨g4, 0, none⟩) (ts2 ++ [endT l]).length k5), (4, .pointer (some ⟨b7, 0, none⟩)), (17, .bool false), (14, .bool false), (2, .bool false), (0, Str l)] ⟨rfl, rfl, rfl, rfl, rfl, rfl, rfl, rfl, rfl, trivial⟩ fun a hK => ?_
      refine wp_seq ?_
      refine wp_seq ?_
      refine region_go (lst := [0, 1, 2, 3, 4, 5, 6, 7, 8, 9, 10, 11, 12, 13, 14, 15, 16, 17, 18, 19, 20, 21, 22, 23, 24, 25, 26, 27, 28, 29, 30, 31, 32, 33, 34, 35, 36]) (by kernel_rfl) ?_
      refine stepLoad hK 40 (.agg #[.int .i64 0, .int .i64 0]) (by kernel_rfl) rfl rfl ((hM.row 0 rfl).cells 0 2) (by kernel_rfl) fun a hK => ?_
      refine stepP hK 41 (.agg #[.int .i64 0, .int .i64 0]) (by kernel_rfl) (by kernel_rfl) fun a hK => ?_
      refine stepP hK 42 (.bool false) (by kernel_rfl) (okBool (run_neqFlt rfl rfl rfl) (by decide)) fun a hK => ?_
      refine stepM hK 43 42 (by kernel_rfl) (.inl rfl) rfl fun a hK => ?_
      refine stepM hK 44 3 (by kernel_rfl) (.inl rfl) rfl fun a hK => ?_
      refine stepP hK 45 (.int .i64 (((ts2 ++ [endT l]).length : Nat) : Int)) (by kernel_rfl) (by kernel_rfl) fun a hK => ?_
      refine stepM hK 46 5 (by kernel_rfl) (.inl rfl) rfl fun a hK => ?_
      refine stepP hK 47 (.int .i64 ((((reAt 0 ts2) ++ [endT (jtx (ts2 ++ [endT l]))]).length : Nat) : Int)) (by kernel_rfl) (by kernel_rfl) fun a hK => ?_
      refine stepP hK 48 (.bool false) (by kernel_rfl) (okBool (b := (!(decide (((((ts2 ++ [endT l]).length : Nat) : Int) : Int) = ((((reAt 0 ts2) ++ [endT (jtx (ts2 ++ [endT l]))]).length : Nat) : Int))))) (by kernel_rfl) (by rw [Bool.not_eq_false', decide_eq_true_iff]; omega)) fun a hK => ?_
      refine stepP hK 49 (.bool false) (by kernel_rfl) (by kernel_rfl) fun a hK => ?_
      refine stepM hK 50 49 (by kernel_rfl) (.inl rfl) rfl fun a hK => ?_
      refine stepM hK 51 3 (by kernel_rfl) (.inl rfl) rfl fun a hK => ?_
      refine stepP hK 52 (.int .i64 (((ts2 ++ [endT l]).length : Nat) : Int)) (by kernel_rfl) (by kernel_rfl) fun a hK => ?_
      refine stepP hK 53 (.bool false) (by kernel_rfl) (okBool (b := (decide (((((ts2 ++ [endT l]).length : Nat) : Int) : Int) = 0))) (by kernel_rfl) (decide_eq_false (by omega))) fun a hK => ?_
      refine stepP hK 54 (.bool false) (by kernel_rfl) (by kernel_rfl) fun a hK => ?_
      refine stepM hK 55 54 (by kernel_rfl) (.inl rfl) rfl fun a hK => ?_
      refine stepM hK 56 3 (by kernel_rfl) (.inl rfl) rfl fun a hK => ?_
      refine stepM hK 57 3 (by kernel_rfl) (.inl rfl) rfl fun a hK => ?_
      refine stepP hK 58 (.int .i64 (((ts2 ++ [endT l]).length : Nat) : Int)) (by kernel_rfl) (by kernel_rfl) fun a hK => ?_
      refine stepP hK 59 (.int .i64 ((((ts2 ++ [endT l]).length - 1) : Nat) : Int)) (by kernel_rfl) (run_subN (i := (ts2 ++ [endT l]).length) (j := 1) rfl rfl rfl (by omega) (by omega)) fun a hK => ?_
      obtain ⟨t12, ht12⟩ : ∃ t, (ts2 ++ [endT l])[(((ts2 ++ [endT l]).length - 1) : Nat)]? = some t := ⟨_, List.getElem?_eq_getElem (by omega)⟩
      refine stepP hK 60 (.pointer (some ⟨g4, ((ts2 ++ [endT l]).length - 1) * 4, none⟩)) (by kernel_rfl) (run_ixG (k := ((ts2 ++ [endT l]).length - 1)) (s := 4) rfl rfl rfl Tryd.underlying29 (by kernel_rfl) (List.getElem?_eq_some_iff.1 ht12).1) fun a hK => ?_
      refine stepP hK 61 (.pointer (some ⟨g4, ((ts2 ++ [endT l]).length - 1) * 4, none⟩)) (by kernel_rfl) (by kernel_rfl) fun a hK => ?_
      refine stepLoad hK 62 (.int .i64 t12.1.1) (by kernel_rfl) rfl rfl ((((cells_drop _ ((ts2 ++ [endT l]).length - 1) t12 ht12) ▸ hM.ownCells 3 rfl (((ts2 ++ [endT l]).length - 1) * 4) 4 : CellsAt w ⟨g4, ((ts2 ++ [endT l]).length - 1) * 4, none⟩ (c4 (tk4 t12)))).sub 0 1) (by kernel_rfl) fun a hK => ?_
      refine stepP hK 63 (.bool false) (by kernel_rfl) (okBool (b := (!(decide ((t12.1.1 : Int) = 5)))) (by kernel_rfl) (by rw [last_eq ht12]; rfl)) fun a hK => ?_
      refine stepP hK 64 (.bool false) (by kernel_rfl) (by kernel_rfl) fun a hK => ?_
      refine stepM hK 65 64 (by kernel_rfl) (.inl rfl) rfl fun a hK => ?_
      refine stepM hK 66 3 (by kernel_rfl) (.inl rfl) rfl fun a hK => ?_
      refine stepM hK 67 3 (by kernel_rfl) (.inl rfl) rfl fun a hK => ?_
      refine stepP hK 68 (.int .i64 (((ts2 ++ [endT l]).length : Nat) : Int)) (by kernel_rfl) (by kernel_rfl) fun a hK => ?_
      refine stepP hK 69 (.int .i64 ((((ts2 ++ [endT l]).length - 1) : Nat) : Int)) (by kernel_rfl) (run_subN (i := (ts2 ++ [endT l]).length) (j := 1) rfl rfl rfl (by omega) (by omega)) fun a hK => ?_
      refine stepP hK 70 (.pointer (some ⟨g4, ((ts2 ++ [endT l]).length - 1) * 4, none⟩)) (by kernel_rfl) (run_ixG (k := ((ts2 ++ [endT l]).length - 1)) (s := 4) rfl rfl rfl Tryd.underlying29 (by kernel_rfl) (List.getElem?_eq_some_iff.1 ht12).1) fun a hK => ?_
      refine stepP hK 71 (.pointer (some ⟨g4, ((ts2 ++ [endT l]).length - 1) * 4 + 3, none⟩)) (by kernel_rfl) (by kernel_rfl) fun a hK => ?_
      refine stepLoad hK 72 (.int .i64 ((t12.2 : Nat) : Int)) (by kernel_rfl) rfl rfl ((((cells_drop _ ((ts2 ++ [endT l]).length - 1) t12 ht12) ▸ hM.ownCells 3 rfl (((ts2 ++ [endT l]).length - 1) * 4) 4 : CellsAt w ⟨g4, ((ts2 ++ [endT l]).length - 1) * 4, none⟩ (c4 (tk4 t12)))).sub 3 1) (by kernel_rfl) fun a hK => ?_
      refine stepM hK 73 0 (by kernel_rfl) (.inl rfl) rfl fun a hK => ?_
      refine stepP hK 74 (.int .i64 ((l.length : Nat) : Int)) (by kernel_rfl) (by kernel_rfl) fun a hK => ?_
      refine stepP hK 75 (.bool false) (by kernel_rfl) (okBool (b := (!(decide ((((t12.2 : Nat) : Int) : Int) = ((l.length : Nat) : Int))))) (by kernel_rfl) (by rw [last_eq ht12]; simp [endT])) fun a hK => ?_
      refine stepP hK 76 (.bool false) (by kernel_rfl) (by kernel_rfl) fun a hK => ?_
      refine region_done hK [(76, .bool false), (5, .slice (some ⟨g8, 0, none⟩) ((reAt 0 ts2) ++ [endT (jtx (ts2 ++ [endT l]))]).length k9), (6, .pointer (some ⟨b11, 0, none⟩)), (25, .bool false), (3, .slice (some ⟨g4, 0, none⟩) (ts2 ++ [endT l]).length k5), (4, .pointer (some ⟨b7, 0, none⟩)), (17, .bool false), (14, .bool false), (2, .bool false), (0, Str l)] ⟨rfl, rfl, rfl, rfl, rfl, rfl, rfl, rfl, rfl, rfl, trivial⟩ fun a hK => ?_
      refine wp_cond_false (hK.get rfl) ?_
      refine wp_skip ?_
      refine wp_seq ?_
      refine region_go (lst := [0, 1]) (by kernel_rfl) ?_
      refine stepP hK 7 (.int .i64 0) (by kernel_rfl) (by kernel_rfl) fun a hK => ?_
      refine stepP hK 8 (.bool false) (by kernel_rfl) (by kernel_rfl) fun a hK => ?_
      refine region_done hK [(8, .bool false), (7, .int .i64 0), (76, .bool false), (5, .slice (some ⟨g8, 0, none⟩) ((reAt 0 ts2) ++ [endT (jtx (ts2 ++ [endT l]))]).length k9), (6, .pointer (some ⟨b11, 0, none⟩)), (25, .bool false), (3, .slice (some ⟨g4, 0, none⟩) (ts2 ++ [endT l]).length k5), (4, .pointer (some ⟨b7, 0, none⟩)), (17, .bool false), (14, .bool false), (2, .bool false), (0, Str l)] ⟨rfl, rfl, rfl, rfl, rfl, rfl, rfl, rfl, rfl, rfl, rfl, rfl, trivial⟩ fun a hK => ?_
      refine wp_seq ?_
      refine wp_seq ?_
      refine region_go (lst := [0]) (by kernel_rfl) ?_
      refine stepP hK 9 (.int .i64 0) (by kernel_rfl) (by kernel_rfl) fun a hK => ?_
      refine region_done hK [(9, .int .i64 0), (8, .bool false), (7, .int .i64 0), (76, .bool false), (5, .slice (some ⟨g8, 0, none⟩) ((reAt 0 ts2) ++ [endT (jtx (ts2 ++ [endT l]))]).length k9), (6, .pointer (some ⟨b11, 0, none⟩)), (25, .bool false), (3, .slice (some ⟨g4, 0, none⟩) (ts2 ++ [endT l]).length k5), (4, .pointer (some ⟨b7, 0, none⟩)), (17, .bool false), (14, .bool false), (2, .bool false), (0, Str l)] ⟨rfl, rfl, rfl, rfl, rfl, rfl, rfl, rfl, rfl, rfl, rfl, rfl, rfl, trivial⟩ fun a hK => ?_
      refine wp_block ?_
      refine wp_loopX (fun x : Nat × Nat => [(76, .bool false), (5, .slice (some ⟨g8, 0, none⟩) ((reAt 0 ts2) ++ [endT (jtx (ts2 ++ [endT l]))]).length k9), (6, .pointer (some ⟨b11, 0, none⟩)), (25, .bool false), (3, .slice (some ⟨g4, 0, none⟩) (ts2 ++ [endT l]).length k5), (4, .pointer (some ⟨b7, 0, none⟩)), (17, .bool false), (14, .bool false), (2, .bool false), (0, Str l), (9, .int .i64 ((x.1 : Nat) : Int)), (7, .int .i64 ((x.2 : Nat) : Int)), (8, .bool false)]) (fun x : Nat × Nat => [.row b11 24 [.int .i64 0, .int .i64 0], .own 35 4 (.slice (some ⟨g8, 0, none⟩) ((reAt 0 ts2) ++ [endT (jtx (ts2 ++ [endT l]))]).length k9) ((reAt 0 ts2) ++ [endT (jtx (ts2 ++ [endT l]))]).length (cellsT ((reAt 0 ts2) ++ [endT (jtx (ts2 ++ [endT l]))])), .row b7 24 [.int .i64 0, .int .i64 0], .own 35 4 (.slice (some ⟨g4, 0, none⟩) (ts2 ++ [endT l]).length k5) (ts2 ++ [endT l]).length (cellsT (ts2 ++ [endT l]))]) (fun x : Nat × Nat => x.1 ≤ ts2.length + 1 ∧ x.2 ≤ l.length ∧ (x.1 ≤ ts2.length → lexL x.2 (l.drop x.2) = .inr (ts2.drop x.1))) (fun x : Nat × Nat => ts2.length + 1 - x.1) (0, 0) (hK.sub ⟨rfl, rfl, rfl, rfl, rfl, rfl, rfl, rfl, rfl, rfl, rfl, rfl, rfl, trivial⟩) hM ⟨Nat.zero_le _, Nat.zero_le _, fun _ => hx2⟩ ?_
      rintro ⟨i, q⟩ a w hK hM hR
      replace hK : Knows a 185 [(76, .bool false), (5, .slice (some ⟨g8, 0, none⟩) ((reAt 0 ts2) ++ [endT (jtx (ts2 ++ [endT l]))]).length k9), (6, .pointer (some ⟨b11, 0, none⟩)), (25, .bool false), (3, .slice (some ⟨g4, 0, none⟩) (ts2 ++ [endT l]).length k5), (4, .pointer (some ⟨b7, 0, none⟩)), (17, .bool false), (14, .bool false), (2, .bool false), (0, Str l), (9, .int .i64 ((i : Nat) : Int)), (7, .int .i64 ((q : Nat) : Int)), (8, .bool false)] := hK
      replace hM : Mem w0 w [.row b11 24 [.int .i64 0, .int .i64 0], .own 35 4 (.slice (some ⟨g8, 0, none⟩) ((reAt 0 ts2) ++ [endT (jtx (ts2 ++ [endT l]))]).length k9) ((reAt 0 ts2) ++ [endT (jtx (ts2 ++ [endT l]))]).length (cellsT ((reAt 0 ts2) ++ [endT (jtx (ts2 ++ [endT l]))])), .row b7 24 [.int .i64 0, .int .i64 0], .own 35 4 (.slice (some ⟨g4, 0, none⟩) (ts2 ++ [endT l]).length k5) (ts2 ++ [endT l]).length (cellsT (ts2 ++ [endT l]))] := hM
      replace hR : i ≤ ts2.length + 1 ∧ q ≤ l.length ∧ (i ≤ ts2.length → lexL q (l.drop q) = .inr (ts2.drop i)) := hR
      refine wp_seq ?_
      refine wp_seq ?_
      refine region_go (lst := [0, 1, 2, 3]) (by kernel_rfl) ?_
      refine stepM hK 77 9 (by kernel_rfl) (.inl rfl) rfl fun a hK => ?_
      refine stepM hK 78 3 (by kernel_rfl) (.inl rfl) rfl fun a hK => ?_
      refine stepP hK 79 (.int .i64 (((ts2 ++ [endT l]).length : Nat) : Int)) (by kernel_rfl) (by kernel_rfl) fun a hK => ?_
      by_cases h13 : (((i : Nat) : Int) : Int) < (((ts2 ++ [endT l]).length : Nat) : Int)
      · refine stepP hK 80 (.bool true) (by kernel_rfl) (okBool (b := (decide ((((i : Nat) : Int) : Int) < (((ts2 ++ [endT l]).length : Nat) : Int)))) (by kernel_rfl) (decide_eq_true h13)) fun a hK => ?_
        refine region_done hK [(80, .bool true), (76, .bool false), (5, .slice (some ⟨g8, 0, none⟩) ((reAt 0 ts2) ++ [endT (jtx (ts2 ++ [endT l]))]).length k9), (6, .pointer (some ⟨b11, 0, none⟩)), (25, .bool false), (3, .slice (some ⟨g4, 0, none⟩) (ts2 ++ [endT l]).length k5), (4, .pointer (some ⟨b7, 0, none⟩)), (17, .bool false), (14, .bool false), (2, .bool false), (0, Str l), (9, .int .i64 ((i : Nat) : Int)), (7, .int .i64 ((q : Nat) : Int)), (8, .bool false)] ⟨rfl, rfl, rfl, rfl, rfl, rfl, rfl, rfl, rfl, rfl, rfl, rfl, rfl, rfl, trivial⟩ fun a hK => ?_
        refine wp_cond_true (hK.get rfl) ?_
        refine wp_skip ?_
        refine wp_seq ?_
        refine wp_block ?_
        refine wp_seq ?_
        obtain ⟨t14, ht14⟩ : ∃ t, (ts2 ++ [endT l])[(i : Nat)]? = some t := ⟨_, List.getElem?_eq_getElem (by omega)⟩
        obtain ⟨t15, ht15⟩ : ∃ t, ((reAt 0 ts2) ++ [endT (jtx (ts2 ++ [endT l]))])[(i : Nat)]? = some t := ⟨_, List.getElem?_eq_getElem (by omega)⟩
        refine region_made_strip (F := fun w => Mem w0 w [.row b11 24 [.int .i64 0, .int .i64 0], .own 35 4 (.slice (some ⟨g8, 0, none⟩) ((reAt 0 ts2) ++ [endT (jtx (ts2 ++ [endT l]))]).length k9) ((reAt 0 ts2) ++ [endT (jtx (ts2 ++ [endT l]))]).length (cellsT ((reAt 0 ts2) ++ [endT (jtx (ts2 ++ [endT l]))])), .row b7 24 [.int .i64 0, .int .i64 0], .own 35 4 (.slice (some ⟨g4, 0, none⟩) (ts2 ++ [endT l]).length k5) (ts2 ++ [endT l]).length (cellsT (ts2 ++ [endT l]))]) hK hM [.val (.slice (some ⟨g4, 0, none⟩) (ts2 ++ [endT l]).length k5), .val (.int .i64 ((i : Nat) : Int)), .val (.pointer (some ⟨g4, i * 4, none⟩)), .val (.agg #[.int .i64 t14.1.1, Str t14.1.2.1, .int .i64 t14.1.2.2, .int .i64 ((t14.2 : Nat) : Int)]), .val (.slice (some ⟨g8, 0, none⟩) ((reAt 0 ts2) ++ [endT (jtx (ts2 ++ [endT l]))]).length k9), .val (.int .i64 ((i : Nat) : Int)), .val (.pointer (some ⟨g8, i * 4, none⟩)), .val (.agg #[.int .i64 t15.1.1, Str t15.1.2.1, .int .i64 t15.1.2.2, .int .i64 ((t15.2 : Nat) : Int)]), .lay 35 [.int .i64 0, Str [], .int .i64 0, .int .i64 0], .lay 35 [.int .i64 0, Str [], .int .i64 0, .int .i64 0], .put 8 [.int .i64 t14.1.1, Str t14.1.2.1, .int .i64 t14.1.2.2, .int .i64 ((t14.2 : Nat) : Int)], .put 9 [.int .i64 t15.1.1, Str t15.1.2.1, .int .i64 t15.1.2.2, .int .i64 ((t15.2 : Nat) : Int)]] 12 (fun _ h => h) (by kernel_rfl) (by kernel_rfl) ⟨⟨⟨⟨⟨⟨⟨⟨⟨⟨⟨⟨trivial, ?_⟩, ?_⟩, ?_⟩, ?_⟩, ?_⟩, ?_⟩, ?_⟩, ?_⟩, ?_⟩, ?_⟩, ?_⟩, ?_⟩ (fun β => [(11, .pointer (some ⟨(β 9), 0, none⟩)), (10, .pointer (some ⟨(β 8), 0, none⟩)), (80, .bool true), (76, .bool false), (5, .slice (some ⟨g8, 0, none⟩) ((reAt 0 ts2) ++ [endT (jtx (ts2 ++ [endT l]))]).length k9), (6, .pointer (some ⟨b11, 0, none⟩)), (25, .bool false), (3, .slice (some ⟨g4, 0, none⟩) (ts2 ++ [endT l]).length k5), (4, .pointer (some ⟨b7, 0, none⟩)), (17, .bool false), (14, .bool false), (2, .bool false), (0, Str l), (9, .int .i64 ((i : Nat) : Int)), (7, .int .i64 ((q : Nat) : Int)), (8, .bool false)]) (fun β => by kernel_rfl) ?_
        · exact .val (.slice (some ⟨g4, 0, none⟩) (ts2 ++ [endT l]).length k5) rfl (fun β => by kernel_rfl) (fun β w hM => (by kernel_rfl))
        · exact .val (.int .i64 ((i : Nat) : Int)) rfl (fun β => by kernel_rfl) (fun β w hM => (by kernel_rfl))
        · exact .val (.pointer (some ⟨g4, i * 4, none⟩)) rfl (fun β => by kernel_rfl) (fun β w hM => (run_ixG (k := i) (s := 4) rfl rfl rfl Tryd.underlying29 (by kernel_rfl) (List.getElem?_eq_some_iff.1 ht14).1))
        · exact .val (.agg #[.int .i64 t14.1.1, Str t14.1.2.1, .int .i64 t14.1.2.2, .int .i64 ((t14.2 : Nat) : Int)]) rfl (fun β => by kernel_rfl) (fun β w hM => run_loadE rfl rfl (((cells_drop _ i t14 ht14) ▸ hM.ownCells 3 rfl (i * 4) 4 : CellsAt w ⟨g4, i * 4, none⟩ (c4 (tk4 t14)))) (by kernel_rfl))
        · exact .val (.slice (some ⟨g8, 0, none⟩) ((reAt 0 ts2) ++ [endT (jtx (ts2 ++ [endT l]))]).length k9) rfl (fun β => by kernel_rfl) (fun β w hM => (by kernel_rfl))
        · exact .val (.int .i64 ((i : Nat) : Int)) rfl (fun β => by kernel_rfl) (fun β w hM => (by kernel_rfl))
        · exact .val (.pointer (some ⟨g8, i * 4, none⟩)) rfl (fun β => by kernel_rfl) (fun β w hM => (run_ixG (k := i) (s := 4) rfl rfl rfl Tryd.underlying29 (by kernel_rfl) (List.getElem?_eq_some_iff.1 ht15).1))
        · exact .val (.agg #[.int .i64 t15.1.1, Str t15.1.2.1, .int .i64 t15.1.2.2, .int .i64 ((t15.2 : Nat) : Int)]) rfl (fun β => by kernel_rfl) (fun β w hM => run_loadE rfl rfl (((cells_drop _ i t15 ht15) ▸ hM.ownCells 1 rfl (i * 4) 4 : CellsAt w ⟨g8, i * 4, none⟩ (c4 (tk4 t15)))) (by kernel_rfl))
        · exact .lay 35 [.int .i64 0, Str [], .int .i64 0, .int .i64 0] rfl (fun β => by kernel_rfl) (fun β w => by kernel_rfl)
        · exact .lay 35 [.int .i64 0, Str [], .int .i64 0, .int .i64 0] rfl (fun β => by kernel_rfl) (fun β w => by kernel_rfl)
        · exact .put 8 35 [.int .i64 0, Str [], .int .i64 0, .int .i64 0] [.int .i64 t14.1.1, Str t14.1.2.1, .int .i64 t14.1.2.2, .int .i64 ((t14.2 : Nat) : Int)] 35 _ _ (.agg #[.int .i64 t14.1.1, Str t14.1.2.1, .int .i64 t14.1.2.2, .int .i64 ((t14.2 : Nat) : Int)]) rfl rfl (fun β => by kernel_rfl) rfl (fun β => rfl) (fun β => rfl) (by kernel_rfl) (by kernel_rfl) (by kernel_rfl)
        · exact .put 9 35 [.int .i64 0, Str [], .int .i64 0, .int .i64 0] [.int .i64 t15.1.1, Str t15.1.2.1, .int .i64 t15.1.2.2, .int .i64 ((t15.2 : Nat) : Int)] 35 _ _ (.agg #[.int .i64 t15.1.1, Str t15.1.2.1, .int .i64 t15.1.2.2, .int .i64 ((t15.2 : Nat) : Int)]) rfl rfl (fun β => by kernel_rfl) rfl (fun β => rfl) (fun β => rfl) (by kernel_rfl) (by kernel_rfl) (by kernel_rfl)
        intro β18 a w hK hM
        have hK2 := hK; have hM2 := hM; clear hK hM
        have hK : Knows a 185 [(11, .pointer (some ⟨(β18 9), 0, none⟩)), (10, .pointer (some ⟨(β18 8), 0, none⟩)), (80, .bool true), (76, .bool false), (5, .slice (some ⟨g8, 0, none⟩) ((reAt 0 ts2) ++ [endT (jtx (ts2 ++ [endT l]))]).length k9), (6, .pointer (some ⟨b11, 0, none⟩)), (25, .bool false), (3, .slice (some ⟨g4, 0, none⟩) (ts2 ++ [endT l]).length k5), (4, .pointer (some ⟨b7, 0, none⟩)), (17, .bool false), (14, .bool false), (2, .bool false), (0, Str l), (9, .int .i64 ((i : Nat) : Int)), (7, .int .i64 ((q : Nat) : Int)), (8, .bool false)] := hK2
        have hM := hM2.to [.row (β18 8) 35 [.int .i64 t14.1.1, Str t14.1.2.1, .int .i64 t14.1.2.2, .int .i64 ((t14.2 : Nat) : Int)], .row (β18 9) 35 [.int .i64 t15.1.1, Str t15.1.2.1, .int .i64 t15.1.2.2, .int .i64 ((t15.2 : Nat) : Int)], .row b11 24 [.int .i64 0, .int .i64 0], .own 35 4 (.slice (some ⟨g8, 0, none⟩) ((reAt 0 ts2) ++ [endT (jtx (ts2 ++ [endT l]))]).length k9) ((reAt 0 ts2) ++ [endT (jtx (ts2 ++ [endT l]))]).length (cellsT ((reAt 0 ts2) ++ [endT (jtx (ts2 ++ [endT l]))])), .row b7 24 [.int .i64 0, .int .i64 0], .own 35 4 (.slice (some ⟨g4, 0, none⟩) (ts2 ++ [endT l]).length k5) (ts2 ++ [endT l]).length (cellsT (ts2 ++ [endT l]))] (by kernel_rfl)
        clear hK2 hM2
        generalize β18 8 = b16 at hK hM
        generalize β18 9 = b17 at hK hM
        refine wp_seq ?_
        obtain ⟨hf1, hf2, hf3, hf4, hf5⟩ := tok_facts hR.2.1 hR.2.2 ht14
        have hsm := back_same ht14 ht15
        refine region_go (lst := [0, 1, 2, 3]) (by kernel_rfl) ?_
        refine stepP hK 91 (.pointer (some ⟨b16, 3, none⟩)) (by kernel_rfl) (by kernel_rfl) fun a hK => ?_
        refine stepLoad hK 92 (.int .i64 ((t14.2 : Nat) : Int)) (by kernel_rfl) rfl rfl ((hM.row 0 rfl).cells 3 1) (by kernel_rfl) fun a hK => ?_
        refine stepP hK 93 (.pointer (some ⟨b17, 3, none⟩)) (by kernel_rfl) (by kernel_rfl) fun a hK => ?_
        refine stepStore hK hM 1 [.int .i64 t15.1.1, Str t15.1.2.1, .int .i64 t15.1.2.2, .int .i64 ((t14.2 : Nat) : Int)] (by kernel_rfl) rfl rfl rfl rfl (by kernel_rfl) fun w hM => ?_
        replace hM := hM.to [.row b16 35 [.int .i64 t14.1.1, Str t14.1.2.1, .int .i64 t14.1.2.2, .int .i64 ((t14.2 : Nat) : Int)], .row b17 35 [.int .i64 t15.1.1, Str t15.1.2.1, .int .i64 t15.1.2.2, .int .i64 ((t14.2 : Nat) : Int)], .row b11 24 [.int .i64 0, .int .i64 0], .own 35 4 (.slice (some ⟨g8, 0, none⟩) ((reAt 0 ts2) ++ [endT (jtx (ts2 ++ [endT l]))]).length k9) ((reAt 0 ts2) ++ [endT (jtx (ts2 ++ [endT l]))]).length (cellsT ((reAt 0 ts2) ++ [endT (jtx (ts2 ++ [endT l]))])), .row b7 24 [.int .i64 0, .int .i64 0], .own 35 4 (.slice (some ⟨g4, 0, none⟩) (ts2 ++ [endT l]).length k5) (ts2 ++ [endT l]).length (cellsT (ts2 ++ [endT l]))] (by kernel_rfl)
        refine region_done hK [(11, .pointer (some ⟨b17, 0, none⟩)), (10, .pointer (some ⟨b16, 0, none⟩)), (80, .bool true), (76, .bool false), (5, .slice (some ⟨g8, 0, none⟩) ((reAt 0 ts2) ++ [endT (jtx (ts2 ++ [endT l]))]).length k9), (6, .pointer (some ⟨b11, 0, none⟩)), (25, .bool false), (3, .slice (some ⟨g4, 0, none⟩) (ts2 ++ [endT l]).length k5), (4, .pointer (some ⟨b7, 0, none⟩)), (17, .bool false), (14, .bool false), (2, .bool false), (0, Str l), (9, .int .i64 ((i : Nat) : Int)), (7, .int .i64 ((q : Nat) : Int)), (8, .bool false)] ⟨rfl, rfl, rfl, rfl, rfl, rfl, rfl, rfl, rfl, rfl, rfl, rfl, rfl, rfl, rfl, rfl, trivial⟩ fun a hK => ?_
        refine wp_seq ?_
        refine wp_seq ?_
        refine region_any (F := fun w => Mem w0 w [.row b16 35 [.int .i64 t14.1.1, Str t14.1.2.1, .int .i64 t14.1.2.2, .int .i64 ((t14.2 : Nat) : Int)], .row b17 35 [.int .i64 t15.1.1, Str t15.1.2.1, .int .i64 t15.1.2.2, .int .i64 ((t14.2 : Nat) : Int)], .row b11 24 [.int .i64 0, .int .i64 0], .own 35 4 (.slice (some ⟨g8, 0, none⟩) ((reAt 0 ts2) ++ [endT (jtx (ts2 ++ [endT l]))]).length k9) ((reAt 0 ts2) ++ [endT (jtx (ts2 ++ [endT l]))]).length (cellsT ((reAt 0 ts2) ++ [endT (jtx (ts2 ++ [endT l]))])), .row b7 24 [.int .i64 0, .int .i64 0], .own 35 4 (.slice (some ⟨g4, 0, none⟩) (ts2 ++ [endT l]).length k5) (ts2 ++ [endT l]).length (cellsT (ts2 ++ [endT l]))]) hK [some (.agg #[.int .i64 t14.1.1, Str t14.1.2.1, .int .i64 t14.1.2.2, .int .i64 ((t14.2 : Nat) : Int)]), some (.agg #[.int .i64 t15.1.1, Str t15.1.2.1, .int .i64 t15.1.2.2, .int .i64 ((t14.2 : Nat) : Int)]), some (.bool false), some (.bool false), some (.pointer (some ⟨b16, 3, none⟩)), some (.int .i64 ((t14.2 : Nat) : Int)), some (.int .i64 ((q : Nat) : Int)), some (.bool false), some (.bool false), some (.bool false), some (.pointer (some ⟨b16, 3, none⟩)), some (.int .i64 ((t14.2 : Nat) : Int)), some (.pointer (some ⟨b16, 1, none⟩)), some (Str t14.1.2.1), some (.int .i64 ((t14.1.2.1.length : Nat) : Int)), some (.int .i64 (((t14.2 + t14.1.2.1.length) : Nat) : Int)), some (Str l), some (.int .i64 ((l.length : Nat) : Int)), some (.bool false), some (.bool false), some (.bool false), some (Str l), some (.pointer (some ⟨b16, 3, none⟩)), some (.int .i64 ((t14.2 : Nat) : Int)), some (.pointer (some ⟨b16, 3, none⟩)), some (.int .i64 ((t14.2 : Nat) : Int)), some (.pointer (some ⟨b16, 1, none⟩)), some (Str t14.1.2.1), some (.int .i64 ((t14.1.2.1.length : Nat) : Int)), some (.int .i64 (((t14.2 + t14.1.2.1.length) : Nat) : Int)), some (Str ((l.drop t14.2).take ((t14.2 + t14.1.2.1.length) - t14.2))), some (.pointer (some ⟨b16, 1, none⟩)), some (Str t14.1.2.1), some (.bool false), some (.bool false)] 35 (fun _ _ hb hm => hm.go hb) hM (by kernel_rfl) (by kernel_rfl) ⟨⟨⟨⟨⟨⟨⟨⟨⟨⟨⟨⟨⟨⟨⟨⟨⟨⟨⟨⟨⟨⟨⟨⟨⟨⟨⟨⟨⟨⟨⟨⟨⟨⟨⟨trivial, ?_⟩, ?_⟩, ?_⟩, ?_⟩, ?_⟩, ?_⟩, ?_⟩, ?_⟩, ?_⟩, ?_⟩, ?_⟩, ?_⟩, ?_⟩, ?_⟩, ?_⟩, ?_⟩, ?_⟩, ?_⟩, ?_⟩, ?_⟩, ?_⟩, ?_⟩, ?_⟩, ?_⟩, ?_⟩, ?_⟩, ?_⟩, ?_⟩, ?_⟩, ?_⟩, ?_⟩, ?_⟩, ?_⟩, ?_⟩, ?_⟩ [(128, .bool false), (11, .pointer (some ⟨b17, 0, none⟩)), (10, .pointer (some ⟨b16, 0, none⟩)), (80, .bool true), (76, .bool false), (5, .slice (some ⟨g8, 0, none⟩) ((reAt 0 ts2) ++ [endT (jtx (ts2 ++ [endT l]))]).length k9), (6, .pointer (some ⟨b11, 0, none⟩)), (25, .bool false), (3, .slice (some ⟨g4, 0, none⟩) (ts2 ++ [endT l]).length k5), (4, .pointer (some ⟨b7, 0, none⟩)), (17, .bool false), (14, .bool false), (2, .bool false), (0, Str l), (9, .int .i64 ((i : Nat) : Int)), (7, .int .i64 ((q : Nat) : Int)), (8, .bool false)] (by kernel_rfl) fun a w hK hM => ?_
        · exact .val (.agg #[.int .i64 t14.1.1, Str t14.1.2.1, .int .i64 t14.1.2.2, .int .i64 ((t14.2 : Nat) : Int)]) rfl (by kernel_rfl) (fun w hM => run_loadE rfl rfl ((hM.row 0 rfl).cells 0 4) (by kernel_rfl))
        · exact .val (.agg #[.int .i64 t15.1.1, Str t15.1.2.1, .int .i64 t15.1.2.2, .int .i64 ((t14.2 : Nat) : Int)]) rfl (by kernel_rfl) (fun w hM => run_loadE rfl rfl ((hM.row 1 rfl).cells 0 4) (by kernel_rfl))
        · exact .val (.bool false) rfl (by kernel_rfl) (fun w hM => (okBool (b := (!(decide ((t14.1.1 : Int) = t15.1.1) && decide (t14.1.2.1 = t15.1.2.1) && decide ((t14.1.2.2 : Int) = t15.1.2.2) && decide ((((t14.2 : Nat) : Int) : Int) = ((t14.2 : Nat) : Int))))) (run_neqTok rfl rfl rfl) (by rw [hsm]; simp)))
        · exact .val (.bool false) rfl (by kernel_rfl) (fun w hM => (by kernel_rfl))
        · exact .val (.pointer (some ⟨b16, 3, none⟩)) rfl (by kernel_rfl) (fun w hM => (by kernel_rfl))
        · exact .val (.int .i64 ((t14.2 : Nat) : Int)) rfl (by kernel_rfl) (fun w hM => run_loadE rfl rfl ((hM.row 0 rfl).cells 3 1) (by kernel_rfl))
        · exact .val (.int .i64 ((q : Nat) : Int)) rfl (by kernel_rfl) (fun w hM => (by kernel_rfl))
        · exact .val (.bool false) rfl (by kernel_rfl) (fun w hM => (okBool (b := (decide ((((t14.2 : Nat) : Int) : Int) < ((q : Nat) : Int)))) (by kernel_rfl) (decide_eq_false (by omega))))
        · exact .val (.bool false) rfl (by kernel_rfl) (fun w hM => (by kernel_rfl))
        · exact .val (.bool false) rfl (by kernel_rfl) (fun w hM => (by kernel_rfl))
        · exact .val (.pointer (some ⟨b16, 3, none⟩)) rfl (by kernel_rfl) (fun w hM => (by kernel_rfl))
        · exact .val (.int .i64 ((t14.2 : Nat) : Int)) rfl (by kernel_rfl) (fun w hM => run_loadE rfl rfl ((hM.row 0 rfl).cells 3 1) (by kernel_rfl))
        · exact .val (.pointer (some ⟨b16, 1, none⟩)) rfl (by kernel_rfl) (fun w hM => (by kernel_rfl))
        · exact .val (Str t14.1.2.1) rfl (by kernel_rfl) (fun w hM => run_loadE rfl rfl ((hM.row 0 rfl).cells 1 1) (by kernel_rfl))
        · exact .val (.int .i64 ((t14.1.2.1.length : Nat) : Int)) rfl (by kernel_rfl) (fun w hM => (by kernel_rfl))
        · exact .val (.int .i64 (((t14.2 + t14.1.2.1.length) : Nat) : Int)) rfl (by kernel_rfl) (fun w hM => (run_addN (i := t14.2) (j := t14.1.2.1.length) rfl rfl rfl (by omega)))
        · exact .val (Str l) rfl (by kernel_rfl) (fun w hM => (by kernel_rfl))
        · exact .val (.int .i64 ((l.length : Nat) : Int)) rfl (by kernel_rfl) (fun w hM => (by kernel_rfl))
        · exact .val (.bool false) rfl (by kernel_rfl) (fun w hM => (okBool (b := (decide ((((l.length : Nat) : Int) : Int) < (((t14.2 + t14.1.2.1.length) : Nat) : Int)))) (by kernel_rfl) (decide_eq_false (by omega))))
        · exact .val (.bool false) rfl (by kernel_rfl) (fun w hM => (by kernel_rfl))
        · exact .val (.bool false) rfl (by kernel_rfl) (fun w hM => (by kernel_rfl))
        · exact .val (Str l) rfl (by kernel_rfl) (fun w hM => (by kernel_rfl))
        · exact .val (.pointer (some ⟨b16, 3, none⟩)) rfl (by kernel_rfl) (fun w hM => (by kernel_rfl))
        · exact .val (.int .i64 ((t14.2 : Nat) : Int)) rfl (by kernel_rfl) (fun w hM => run_loadE rfl rfl ((hM.row 0 rfl).cells 3 1) (by kernel_rfl))
        · exact .val (.pointer (some ⟨b16, 3, none⟩)) rfl (by kernel_rfl) (fun w hM => (by kernel_rfl))
        · exact .val (.int .i64 ((t14.2 : Nat) : Int)) rfl (by kernel_rfl) (fun w hM => run_loadE rfl rfl ((hM.row 0 rfl).cells 3 1) (by kernel_rfl))
        · exact .val (.pointer (some ⟨b16, 1, none⟩)) rfl (by kernel_rfl) (fun w hM => (by kernel_rfl))
        · exact .val (Str t14.1.2.1) rfl (by kernel_rfl) (fun w hM => run_loadE rfl rfl ((hM.row 0 rfl).cells 1 1) (by kernel_rfl))
        · exact .val (.int .i64 ((t14.1.2.1.length : Nat) : Int)) rfl (by kernel_rfl) (fun w hM => (by kernel_rfl))
        · exact .val (.int .i64 (((t14.2 + t14.1.2.1.length) : Nat) : Int)) rfl (by kernel_rfl) (fun w hM => (run_addN (i := t14.2) (j := t14.1.2.1.length) rfl rfl rfl (by omega)))
        · exact .val (Str ((l.drop t14.2).take ((t14.2 + t14.1.2.1.length) - t14.2))) rfl (by kernel_rfl) (fun w hM => (run_slcS (i := t14.2) (j := (t14.2 + t14.1.2.1.length)) rfl rfl rfl rfl (by omega) (by omega)))
        · exact .val (.pointer (some ⟨b16, 1, none⟩)) rfl (by kernel_rfl) (fun w hM => (by kernel_rfl))
        · exact .val (Str t14.1.2.1) rfl (by kernel_rfl) (fun w hM => run_loadE rfl rfl ((hM.row 0 rfl).cells 1 1) (by kernel_rfl))
        · exact .val (.bool false) rfl (by kernel_rfl) (fun w hM => (okBool (b := (!(decide (((l.drop t14.2).take ((t14.2 + t14.1.2.1.length) - t14.2)) = t14.1.2.1)))) (run_neS rfl rfl rfl) (by rw [Nat.add_sub_cancel_left, hf3]; simp)))
        · exact .val (.bool false) rfl (by kernel_rfl) (fun w hM => (by kernel_rfl))
        refine wp_cond_false (hK.get rfl) ?_
        refine wp_skip ?_
        refine wp_seq ?_
        refine wp_block ?_
        have hRo := hR
        refine wp_loopX (fun x : Nat × Bool => [(128, .bool false), (11, .pointer (some ⟨b17, 0, none⟩)), (10, .pointer (some ⟨b16, 0, none⟩)), (80, .bool true), (76, .bool false), (5, .slice (some ⟨g8, 0, none⟩) ((reAt 0 ts2) ++ [endT (jtx (ts2 ++ [endT l]))]).length k9), (6, .pointer (some ⟨b11, 0, none⟩)), (25, .bool false), (3, .slice (some ⟨g4, 0, none⟩) (ts2 ++ [endT l]).length k5), (4, .pointer (some ⟨b7, 0, none⟩)), (17, .bool false), (14, .bool false), (2, .bool false), (0, Str l), (9, .int .i64 ((i : Nat) : Int)), (7, .int .i64 ((x.1 : Nat) : Int)), (8, .bool x.2)]) (fun x : Nat × Bool => [.row b16 35 [.int .i64 t14.1.1, Str t14.1.2.1, .int .i64 t14.1.2.2, .int .i64 ((t14.2 : Nat) : Int)], .row b17 35 [.int .i64 t15.1.1, Str t15.1.2.1, .int .i64 t15.1.2.2, .int .i64 ((t14.2 : Nat) : Int)], .row b11 24 [.int .i64 0, .int .i64 0], .own 35 4 (.slice (some ⟨g8, 0, none⟩) ((reAt 0 ts2) ++ [endT (jtx (ts2 ++ [endT l]))]).length k9) ((reAt 0 ts2) ++ [endT (jtx (ts2 ++ [endT l]))]).length (cellsT ((reAt 0 ts2) ++ [endT (jtx (ts2 ++ [endT l]))])), .row b7 24 [.int .i64 0, .int .i64 0], .own 35 4 (.slice (some ⟨g4, 0, none⟩) (ts2 ++ [endT l]).length k5) (ts2 ++ [endT l]).length (cellsT (ts2 ++ [endT l]))]) (fun x : Nat × Bool => x.1 ≤ t14.2 ∧ GapSt l t14.2 x.2 x.1) (fun x : Nat × Bool => t14.2 - x.1) (q, false) (hK.sub ⟨rfl, rfl, rfl, rfl, rfl, rfl, rfl, rfl, rfl, rfl, rfl, rfl, rfl, rfl, rfl, rfl, rfl, trivial⟩) hM ⟨by omega, gap_start hf1⟩ ?_
        rintro ⟨q2, rm⟩ a w hK hM hR
        replace hK : Knows a 185 [(128, .bool false), (11, .pointer (some ⟨b17, 0, none⟩)), (10, .pointer (some ⟨b16, 0, none⟩)), (80, .bool true), (76, .bool false), (5, .slice (some ⟨g8, 0, none⟩) ((reAt 0 ts2) ++ [endT (jtx (ts2 ++ [endT l]))]).length k9), (6, .pointer (some ⟨b11, 0, none⟩)), (25, .bool false), (3, .slice (some ⟨g4, 0, none⟩) (ts2 ++ [endT l]).length k5), (4, .pointer (some ⟨b7, 0, none⟩)), (17, .bool false), (14, .bool false), (2, .bool false), (0, Str l), (9, .int .i64 ((i : Nat) : Int)), (7, .int .i64 ((q2 : Nat) : Int)), (8, .bool rm)] := hK
        replace hM : Mem w0 w [.row b16 35 [.int .i64 t14.1.1, Str t14.1.2.1, .int .i64 t14.1.2.2, .int .i64 ((t14.2 : Nat) : Int)], .row b17 35 [.int .i64 t15.1.1, Str t15.1.2.1, .int .i64 t15.1.2.2, .int .i64 ((t14.2 : Nat) : Int)], .row b11 24 [.int .i64 0, .int .i64 0], .own 35 4 (.slice (some ⟨g8, 0, none⟩) ((reAt 0 ts2) ++ [endT (jtx (ts2 ++ [endT l]))]).length k9) ((reAt 0 ts2) ++ [endT (jtx (ts2 ++ [endT l]))]).length (cellsT ((reAt 0 ts2) ++ [endT (jtx (ts2 ++ [endT l]))])), .row b7 24 [.int .i64 0, .int .i64 0], .own 35 4 (.slice (some ⟨g4, 0, none⟩) (ts2 ++ [endT l]).length k5) (ts2 ++ [endT l]).length (cellsT (ts2 ++ [endT l]))] := hM
        replace hR : q2 ≤ t14.2 ∧ GapSt l t14.2 rm q2 := hR
        refine wp_seq ?_
        refine wp_seq ?_
        refine region_go (lst := [0, 1, 2, 3]) (by kernel_rfl) ?_
        refine stepM hK 129 7 (by kernel_rfl) (.inl rfl) rfl fun a hK => ?_
        refine stepP hK 130 (.pointer (some ⟨b16, 3, none⟩)) (by kernel_rfl) (by kernel_rfl) fun a hK => ?_
        refine stepLoad hK 131 (.int .i64 ((t14.2 : Nat) : Int)) (by kernel_rfl) rfl rfl ((hM.row 0 rfl).cells 3 1) (by kernel_rfl) fun a hK => ?_
        by_cases h19 : (((q2 : Nat) : Int) : Int) < ((t14.2 : Nat) : Int)
        · refine stepP hK 132 (.bool true) (by kernel_rfl) (okBool (b := (decide ((((q2 : Nat) : Int) : Int) < ((t14.2 : Nat) : Int)))) (by kernel_rfl) (decide_eq_true h19)) fun a hK => ?_
          refine region_done hK [(132, .bool true), (128, .bool false), (11, .pointer (some ⟨b17, 0, none⟩)), (10, .pointer (some ⟨b16, 0, none⟩)), (80, .bool true), (76, .bool false), (5, .slice (some ⟨g8, 0, none⟩) ((reAt 0 ts2) ++ [endT (jtx (ts2 ++ [endT l]))]).length k9), (6, .pointer (some ⟨b11, 0, none⟩)), (25, .bool false), (3, .slice (some ⟨g4, 0, none⟩) (ts2 ++ [endT l]).length k5), (4, .pointer (some ⟨b7, 0, none⟩)), (17, .bool false), (14, .bool false), (2, .bool false), (0, Str l), (9, .int .i64 ((i : Nat) : Int)), (7, .int .i64 ((q2 : Nat) : Int)), (8, .bool rm)] ⟨rfl, rfl, rfl, rfl, rfl, rfl, rfl, rfl, rfl, rfl, rfl, rfl, rfl, rfl, rfl, rfl, rfl, rfl, trivial⟩ fun a hK => ?_
          refine wp_cond_true (hK.get rfl) ?_
          refine wp_skip ?_
          refine wp_block ?_
          refine wp_seq ?_
          refine region_go (lst := [0, 1, 2, 3]) (by kernel_rfl) ?_
          refine stepM hK 133 0 (by kernel_rfl) (.inl rfl) rfl fun a hK => ?_
          refine stepM hK 134 7 (by kernel_rfl) (.inl rfl) rfl fun a hK => ?_
          obtain ⟨c20, hc20⟩ : ∃ c, l[(q2 : Nat)]? = some c := ⟨_, List.getElem?_eq_getElem (by omega)⟩
          refine stepP hK 135 (.int .u8 ((c20.toNat : Nat) : Int)) (by kernel_rfl) (run_idxS (k := q2) rfl rfl rfl hc20) fun a hK => ?_
          refine stepM hK 12 135 (by kernel_rfl) (.inr rfl) rfl fun a hK => ?_
          refine region_done hK [(12, .int .u8 ((c20.toNat : Nat) : Int)), (132, .bool true), (128, .bool false), (11, .pointer (some ⟨b17, 0, none⟩)), (10, .pointer (some ⟨b16, 0, none⟩)), (80, .bool true), (76, .bool false), (5, .slice (some ⟨g8, 0, none⟩) ((reAt 0 ts2) ++ [endT (jtx (ts2 ++ [endT l]))]).length k9), (6, .pointer (some ⟨b11, 0, none⟩)), (25, .bool false), (3, .slice (some ⟨g4, 0, none⟩) (ts2 ++ [endT l]).length k5), (4, .pointer (some ⟨b7, 0, none⟩)), (17, .bool false), (14, .bool false), (2, .bool false), (0, Str l), (9, .int .i64 ((i : Nat) : Int)), (7, .int .i64 ((q2 : Nat) : Int)), (8, .bool rm)] ⟨rfl, rfl, rfl, rfl, rfl, rfl, rfl, rfl, rfl, rfl, rfl, rfl, rfl, rfl, rfl, rfl, rfl, rfl, rfl, trivial⟩ fun a hK => ?_
          refine wp_seq ?_
          refine region_go (lst := [0, 1, 2, 3, 4, 5, 6, 7, 8, 9, 10, 11, 12, 13, 14, 15, 16, 17, 18, 19, 20, 21, 22, 23]) (by kernel_rfl) ?_
          rcases Bool.eq_false_or_eq_true rm with h21 | h21
          · refine stepP hK 136 (.bool true) (by kernel_rfl) (okBool (b := rm) (by kernel_rfl) h21) fun a hK => ?_
            refine stepM hK 137 136 (by kernel_rfl) (.inl rfl) rfl fun a hK => ?_
            refine stepM hK 138 12 (by kernel_rfl) (.inl rfl) rfl fun a hK => ?_
            rcases Bool.eq_false_or_eq_true (!(decide ((((c20.toNat : Nat) : Int) : Int) = 10))) with h22 | h22
            · refine stepP hK 139 (.bool true) (by kernel_rfl) (okBool (b := (!(decide ((((c20.toNat : Nat) : Int) : Int) = 10)))) (by kernel_rfl) h22) fun a hK => ?_
              refine stepP hK 140 (.bool true) (by kernel_rfl) (by kernel_rfl) fun a hK => ?_
              refine stepM hK 141 140 (by kernel_rfl) (.inl rfl) rfl fun a hK => ?_
              refine stepN hK 142 (by kernel_rfl) fun a hK => ?_
              refine stepN hK 143 (by kernel_rfl) fun a hK => ?_
              refine stepN hK 144 (by kernel_rfl) fun a hK => ?_
              refine stepN hK 145 (by kernel_rfl) fun a hK => ?_
              refine stepN hK 146 (by kernel_rfl) fun a hK => ?_
              refine stepN hK 147 (by kernel_rfl) fun a hK => ?_
              refine stepN hK 148 (by kernel_rfl) fun a hK => ?_
              refine stepN hK 149 (by kernel_rfl) fun a hK => ?_
              refine stepN hK 150 (by kernel_rfl) fun a hK => ?_
              refine stepN hK 151 (by kernel_rfl) fun a hK => ?_
              refine stepN hK 152 (by kernel_rfl) fun a hK => ?_
              refine stepN hK 153 (by kernel_rfl) fun a hK => ?_
              refine stepN hK 154 (by kernel_rfl) fun a hK => ?_
              refine stepN hK 155 (by kernel_rfl) fun a hK => ?_
              refine stepN hK 156 (by kernel_rfl) fun a hK => ?_
              refine stepN hK 157 (by kernel_rfl) fun a hK => ?_
              refine stepP hK 158 (.bool true) (by kernel_rfl) (by kernel_rfl) fun a hK => ?_
              refine stepM hK 8 158 (by kernel_rfl) (.inr rfl) rfl fun a hK => ?_
              refine region_done hK [(8, .bool true), (12, .int .u8 ((c20.toNat : Nat) : Int)), (132, .bool true), (128, .bool false), (11, .pointer (some ⟨b17, 0, none⟩)), (10, .pointer (some ⟨b16, 0, none⟩)), (80, .bool true), (76, .bool false), (5, .slice (some ⟨g8, 0, none⟩) ((reAt 0 ts2) ++ [endT (jtx (ts2 ++ [endT l]))]).length k9), (6, .pointer (some ⟨b11, 0, none⟩)), (25, .bool false), (3, .slice (some ⟨g4, 0, none⟩) (ts2 ++ [endT l]).length k5), (4, .pointer (some ⟨b7, 0, none⟩)), (17, .bool false), (14, .bool false), (2, .bool false), (0, Str l), (9, .int .i64 ((i : Nat) : Int)), (7, .int .i64 ((q2 : Nat) : Int))] ⟨rfl, rfl, rfl, rfl, rfl, rfl, rfl, rfl, rfl, rfl, rfl, rfl, rfl, rfl, rfl, rfl, rfl, rfl, rfl, trivial⟩ fun a hK => ?_
              refine wp_seq ?_
              refine wp_seq ?_
              have hrm : rmN l q2 c20 rm = true := rm_keep h21 h22
              have hg := gap_next hR.2 (by omega) hc20
              rw [hrm] at hg
              refine region_go (lst := [0, 1, 2, 3, 4, 5, 6, 7, 8, 9, 10, 11, 12, 13, 14, 15, 16, 17]) (by kernel_rfl) ?_
              refine stepM hK 159 8 (by kernel_rfl) (.inl rfl) rfl fun a hK => ?_
              refine stepP hK 160 (.bool false) (by kernel_rfl) (by kernel_rfl) fun a hK => ?_
              refine stepM hK 161 160 (by kernel_rfl) (.inl rfl) rfl fun a hK => ?_
              refine stepN hK 162 (by kernel_rfl) fun a hK => ?_
              refine stepN hK 163 (by kernel_rfl) fun a hK => ?_
              refine stepP hK 164 (.bool false) (by kernel_rfl) (by kernel_rfl) fun a hK => ?_
              refine stepM hK 165 164 (by kernel_rfl) (.inl rfl) rfl fun a hK => ?_
              refine stepN hK 166 (by kernel_rfl) fun a hK => ?_
              refine stepN hK 167 (by kernel_rfl) fun a hK => ?_
              refine stepP hK 168 (.bool false) (by kernel_rfl) (by kernel_rfl) fun a hK => ?_
              refine stepM hK 169 168 (by kernel_rfl) (.inl rfl) rfl fun a hK => ?_
              refine stepN hK 170 (by kernel_rfl) fun a hK => ?_
              refine stepN hK 171 (by kernel_rfl) fun a hK => ?_
              refine stepP hK 172 (.bool false) (by kernel_rfl) (by kernel_rfl) fun a hK => ?_
              refine stepM hK 173 172 (by kernel_rfl) (.inl rfl) rfl fun a hK => ?_
              refine stepN hK 174 (by kernel_rfl) fun a hK => ?_
              refine stepN hK 175 (by kernel_rfl) fun a hK => ?_
              refine stepP hK 176 (.bool false) (by kernel_rfl) (by kernel_rfl) fun a hK => ?_
              refine region_done hK [(176, .bool false), (8, .bool true), (12, .int .u8 ((c20.toNat : Nat) : Int)), (132, .bool true), (128, .bool false), (11, .pointer (some ⟨b17, 0, none⟩)), (10, .pointer (some ⟨b16, 0, none⟩)), (80, .bool true), (76, .bool false), (5, .slice (some ⟨g8, 0, none⟩) ((reAt 0 ts2) ++ [endT (jtx (ts2 ++ [endT l]))]).length k9), (6, .pointer (some ⟨b11, 0, none⟩)), (25, .bool false), (3, .slice (some ⟨g4, 0, none⟩) (ts2 ++ [endT l]).length k5), (4, .pointer (some ⟨b7, 0, none⟩)), (17, .bool false), (14, .bool false), (2, .bool false), (0, Str l), (9, .int .i64 ((i : Nat) : Int)), (7, .int .i64 ((q2 : Nat) : Int))] ⟨rfl, rfl, rfl, rfl, rfl, rfl, rfl, rfl, rfl, rfl, rfl, rfl, rfl, rfl, rfl, rfl, rfl, rfl, rfl, rfl, trivial⟩ fun a hK => ?_
              refine wp_cond_false (hK.get rfl) ?_
              refine wp_skip ?_
              refine region_go (lst := [0, 1, 2]) (by kernel_rfl) ?_
              refine stepM hK 177 7 (by kernel_rfl) (.inl rfl) rfl fun a hK => ?_
              refine stepP hK 178 (.int .i64 (((q2 + 1) : Nat) : Int)) (by kernel_rfl) (run_addN (i := q2) (j := 1) rfl rfl rfl (by omega)) fun a hK => ?_
              refine stepM hK 7 178 (by kernel_rfl) (.inr rfl) rfl fun a hK => ?_
              refine region_done hK [(7, .int .i64 (((q2 + 1) : Nat) : Int)), (176, .bool false), (8, .bool true), (12, .int .u8 ((c20.toNat : Nat) : Int)), (132, .bool true), (128, .bool false), (11, .pointer (some ⟨b17, 0, none⟩)), (10, .pointer (some ⟨b16, 0, none⟩)), (80, .bool true), (76, .bool false), (5, .slice (some ⟨g8, 0, none⟩) ((reAt 0 ts2) ++ [endT (jtx (ts2 ++ [endT l]))]).length k9), (6, .pointer (some ⟨b11, 0, none⟩)), (25, .bool false), (3, .slice (some ⟨g4, 0, none⟩) (ts2 ++ [endT l]).length k5), (4, .pointer (some ⟨b7, 0, none⟩)), (17, .bool false), (14, .bool false), (2, .bool false), (0, Str l), (9, .int .i64 ((i : Nat) : Int))] ⟨rfl, rfl, rfl, rfl, rfl, rfl, rfl, rfl, rfl, rfl, rfl, rfl, rfl, rfl, rfl, rfl, rfl, rfl, rfl, rfl, trivial⟩ fun a hK => ?_
              have hRn : (q2 + 1) ≤ t14.2 ∧ GapSt l t14.2 true (q2 + 1) := ⟨by omega, hg.2⟩
              have hmn : t14.2 - (q2 + 1) < t14.2 - q2 := by omega
              exact ⟨(q2 + 1, true), hK.sub ⟨rfl, rfl, rfl, rfl, rfl, rfl, rfl, rfl, rfl, rfl, rfl, rfl, rfl, rfl, rfl, rfl, rfl, trivial⟩, hM, hRn, hmn⟩
            · refine stepP hK 139 (.bool false) (by kernel_rfl) (okBool (b := (!(decide ((((c20.toNat : Nat) : Int) : Int) = 10)))) (by kernel_rfl) h22) fun a hK => ?_
              refine stepP hK 140 (.bool false) (by kernel_rfl) (by kernel_rfl) fun a hK => ?_
              refine stepM hK 141 140 (by kernel_rfl) (.inl rfl) rfl fun a hK => ?_
              refine stepM hK 142 12 (by kernel_rfl) (.inl rfl) rfl fun a hK => ?_
              by_cases h23 : (((c20.toNat : Nat) : Int) : Int) = 47
              · refine stepP hK 143 (.bool true) (by kernel_rfl) (okBool (b := (decide ((((c20.toNat : Nat) : Int) : Int) = 47))) (by kernel_rfl) (decide_eq_true h23)) fun a hK => ?_
                refine stepM hK 144 143 (by kernel_rfl) (.inl rfl) rfl fun a hK => ?_
                refine stepM hK 145 7 (by kernel_rfl) (.inl rfl) rfl fun a hK => ?_
                refine stepP hK 146 (.int .i64 (((q2 + 1) : Nat) : Int)) (by kernel_rfl) (run_addN (i := q2) (j := 1) rfl rfl rfl (by omega)) fun a hK => ?_
                refine stepM hK 147 0 (by kernel_rfl) (.inl rfl) rfl fun a hK => ?_
                refine stepP hK 148 (.int .i64 ((l.length : Nat) : Int)) (by kernel_rfl) (by kernel_rfl) fun a hK => ?_
                by_cases h24 : ((((q2 + 1) : Nat) : Int) : Int) < ((l.length : Nat) : Int)
                · refine stepP hK 149 (.bool true) (by kernel_rfl) (okBool (b := (decide (((((q2 + 1) : Nat) : Int) : Int) < ((l.length : Nat) : Int)))) (by kernel_rfl) (decide_eq_true h24)) fun a hK => ?_
                  refine stepP hK 150 (.bool true) (by kernel_rfl) (by kernel_rfl) fun a hK => ?_
                  refine stepM hK 151 150 (by kernel_rfl) (.inl rfl) rfl fun a hK => ?_
                  refine stepM hK 152 0 (by kernel_rfl) (.inl rfl) rfl fun a hK => ?_
                  refine stepM hK 153 7 (by kernel_rfl) (.inl rfl) rfl fun a hK => ?_
                  refine stepP hK 154 (.int .i64 (((q2 + 1) : Nat) : Int)) (by kernel_rfl) (run_addN (i := q2) (j := 1) rfl rfl rfl (by omega)) fun a hK => ?_
                  obtain ⟨c25, hc25⟩ : ∃ c, l[((q2 + 1) : Nat)]? = some c := ⟨_, List.getElem?_eq_getElem (by omega)⟩
                  refine stepP hK 155 (.int .u8 ((c25.toNat : Nat) : Int)) (by kernel_rfl) (run_idxS (k := (q2 + 1)) rfl rfl rfl hc25) fun a hK => ?_
                  by_cases h26 : (((c25.toNat : Nat) : Int) : Int) = 47
                  · refine stepP hK 156 (.bool true) (by kernel_rfl) (okBool (b := (decide ((((c25.toNat : Nat) : Int) : Int) = 47))) (by kernel_rfl) (decide_eq_true h26)) fun a hK => ?_
                    refine stepP hK 157 (.bool true) (by kernel_rfl) (by kernel_rfl) fun a hK => ?_
                    refine stepP hK 158 (.bool true) (by kernel_rfl) (by kernel_rfl) fun a hK => ?_
                    refine stepM hK 8 158 (by kernel_rfl) (.inr rfl) rfl fun a hK => ?_
                    refine region_done hK [(8, .bool true), (12, .int .u8 ((c20.toNat : Nat) : Int)), (132, .bool true), (128, .bool false), (11, .pointer (some ⟨b17, 0, none⟩)), (10, .pointer (some ⟨b16, 0, none⟩)), (80, .bool true), (76, .bool false), (5, .slice (some ⟨g8, 0, none⟩) ((reAt 0 ts2) ++ [endT (jtx (ts2 ++ [endT l]))]).length k9), (6, .pointer (some ⟨b11, 0, none⟩)), (25, .bool false), (3, .slice (some ⟨g4, 0, none⟩) (ts2 ++ [endT l]).length k5), (4, .pointer (some ⟨b7, 0, none⟩)), (17, .bool false), (14, .bool false), (2, .bool false), (0, Str l), (9, .int .i64 ((i : Nat) : Int)), (7, .int .i64 ((q2 : Nat) : Int))] ⟨rfl, rfl, rfl, rfl, rfl, rfl, rfl, rfl, rfl, rfl, rfl, rfl, rfl, rfl, rfl, rfl, rfl, rfl, rfl, trivial⟩ fun a hK => ?_
                    refine wp_seq ?_
                    refine wp_seq ?_
                    have hrm : rmN l q2 c20 rm = true := rm_new h23 hc25 h26
                    have hg := gap_next hR.2 (by omega) hc20
                    rw [hrm] at hg
                    refine region_go (lst := [0, 1, 2, 3, 4, 5, 6, 7, 8, 9, 10, 11, 12, 13, 14, 15, 16, 17]) (by kernel_rfl) ?_
                    refine stepM hK 159 8 (by kernel_rfl) (.inl rfl) rfl fun a hK => ?_
                    refine stepP hK 160 (.bool false) (by kernel_rfl) (by kernel_rfl) fun a hK => ?_
                    refine stepM hK 161 160 (by kernel_rfl) (.inl rfl) rfl fun a hK => ?_
                    refine stepN hK 162 (by kernel_rfl) fun a hK => ?_
                    refine stepN hK 163 (by kernel_rfl) fun a hK => ?_
                    refine stepP hK 164 (.bool false) (by kernel_rfl) (by kernel_rfl) fun a hK => ?_
                    refine stepM hK 165 164 (by kernel_rfl) (.inl rfl) rfl fun a hK => ?_
                    refine stepN hK 166 (by kernel_rfl) fun a hK => ?_
                    refine stepN hK 167 (by kernel_rfl) fun a hK => ?_
                    refine stepP hK 168 (.bool false) (by kernel_rfl) (by kernel_rfl) fun a hK => ?_
                    refine stepM hK 169 168 (by kernel_rfl) (.inl rfl) rfl fun a hK => ?_
                    refine stepN hK 170 (by kernel_rfl) fun a hK => ?_
                    refine stepN hK 171 (by kernel_rfl) fun a hK => ?_
                    refine stepP hK 172 (.bool false) (by kernel_rfl) (by kernel_rfl) fun a hK => ?_
                    refine stepM hK 173 172 (by kernel_rfl) (.inl rfl) rfl fun a hK => ?_
                    refine stepN hK 174 (by kernel_rfl) fun a hK => ?_
                    refine stepN hK 175 (by kernel_rfl) fun a hK => ?_
                    refine stepP hK 176 (.bool false) (by kernel_rfl) (by kernel_rfl) fun a hK => ?_
                    refine region_done hK [(176, .bool false), (8, .bool true), (12, .int .u8 ((c20.toNat : Nat) : Int)), (132, .bool true), (128, .bool false), (11, .pointer (some ⟨b17, 0, none⟩)), (10, .pointer (some ⟨b16, 0, none⟩)), (80, .bool true), (76, .bool false), (5, .slice (some ⟨g8, 0, none⟩) ((reAt 0 ts2) ++ [endT (jtx (ts2 ++ [endT l]))]).length k9), (6, .pointer (some ⟨b11, 0, none⟩)), (25, .bool false), (3, .slice (some ⟨g4, 0, none⟩) (ts2 ++ [endT l]).length k5), (4, .pointer (some ⟨b7, 0, none⟩)), (17, .bool false), (14, .bool false), (2, .bool false), (0, Str l), (9, .int .i64 ((i : Nat) : Int)), (7, .int .i64 ((q2 : Nat) : Int))] ⟨rfl, rfl, rfl, rfl, rfl, rfl, rfl, rfl, rfl, rfl, rfl, rfl, rfl, rfl, rfl, rfl, rfl, rfl, rfl, rfl, trivial⟩ fun a hK => ?_
                    refine wp_cond_false (hK.get rfl) ?_
                    refine wp_skip ?_
                    refine region_go (lst := [0, 1, 2]) (by kernel_rfl) ?_
                    refine stepM hK 177 7 (by kernel_rfl) (.inl rfl) rfl fun a hK => ?_
                    refine stepP hK 178 (.int .i64 (((q2 + 1) : Nat) : Int)) (by kernel_rfl) (run_addN (i := q2) (j := 1) rfl rfl rfl (by omega)) fun a hK => ?_
                    refine stepM hK 7 178 (by kernel_rfl) (.inr rfl) rfl fun a hK => ?_
                    refine region_done hK [(7, .int .i64 (((q2 + 1) : Nat) : Int)), (176, .bool false), (8, .bool true), (12, .int .u8 ((c20.toNat : Nat) : Int)), (132, .bool true), (128, .bool false), (11, .pointer (some ⟨b17, 0, none⟩)), (10, .pointer (some ⟨b16, 0, none⟩)), (80, .bool true), (76, .bool false), (5, .slice (some ⟨g8, 0, none⟩) ((reAt 0 ts2) ++ [endT (jtx (ts2 ++ [endT l]))]).length k9), (6, .pointer (some ⟨b11, 0, none⟩)), (25, .bool false), (3, .slice (some ⟨g4, 0, none⟩) (ts2 ++ [endT l]).length k5), (4, .pointer (some ⟨b7, 0, none⟩)), (17, .bool false), (14, .bool false), (2, .bool false), (0, Str l), (9, .int .i64 ((i : Nat) : Int))] ⟨rfl, rfl, rfl, rfl, rfl, rfl, rfl, rfl, rfl, rfl, rfl, rfl, rfl, rfl, rfl, rfl, rfl, rfl, rfl, rfl, trivial⟩ fun a hK => ?_
                    have hRn : (q2 + 1) ≤ t14.2 ∧ GapSt l t14.2 true (q2 + 1) := ⟨by omega, hg.2⟩
                    have hmn : t14.2 - (q2 + 1) < t14.2 - q2 := by omega
                    exact ⟨(q2 + 1, true), hK.sub ⟨rfl, rfl, rfl, rfl, rfl, rfl, rfl, rfl, rfl, rfl, rfl, rfl, rfl, rfl, rfl, rfl, rfl, trivial⟩, hM, hRn, hmn⟩
                  · refine stepP hK 156 (.bool false) (by kernel_rfl) (okBool (b := (decide ((((c25.toNat : Nat) : Int) : Int) = 47))) (by kernel_rfl) (decide_eq_false h26)) fun a hK => ?_
                    refine stepP hK 157 (.bool false) (by kernel_rfl) (by kernel_rfl) fun a hK => ?_
                    refine stepP hK 158 (.bool false) (by kernel_rfl) (by kernel_rfl) fun a hK => ?_
                    refine stepM hK 8 158 (by kernel_rfl) (.inr rfl) rfl fun a hK => ?_
                    refine region_done hK [(8, .bool false), (12, .int .u8 ((c20.toNat : Nat) : Int)), (132, .bool true), (128, .bool false), (11, .pointer (some ⟨b17, 0, none⟩)), (10, .pointer (some ⟨b16, 0, none⟩)), (80, .bool true), (76, .bool false), (5, .slice (some ⟨g8, 0, none⟩) ((reAt 0 ts2) ++ [endT (jtx (ts2 ++ [endT l]))]).length k9), (6, .pointer (some ⟨b11, 0, none⟩)), (25, .bool false), (3, .slice (some ⟨g4, 0, none⟩) (ts2 ++ [endT l]).length k5), (4, .pointer (some ⟨b7, 0, none⟩)), (17, .bool false), (14, .bool false), (2, .bool false), (0, Str l), (9, .int .i64 ((i : Nat) : Int)), (7, .int .i64 ((q2 : Nat) : Int))] ⟨rfl, rfl, rfl, rfl, rfl, rfl, rfl, rfl, rfl, rfl, rfl, rfl, rfl, rfl, rfl, rfl, rfl, rfl, rfl, trivial⟩ fun a hK => ?_
                    refine wp_seq ?_
                    refine wp_seq ?_
                    have hrm : rmN l q2 c20 rm = false := rm_no3 (.inr h22) hc25 h26
                    have hg := gap_next hR.2 (by omega) hc20
                    rw [hrm] at hg
                    refine region_go (lst := [0, 1, 2, 3, 4, 5, 6, 7, 8, 9, 10, 11, 12, 13, 14, 15, 16, 17]) (by kernel_rfl) ?_
                    refine stepM hK 159 8 (by kernel_rfl) (.inl rfl) rfl fun a hK => ?_
                    refine stepP hK 160 (.bool true) (by kernel_rfl) (by kernel_rfl) fun a hK => ?_
                    refine stepM hK 161 160 (by kernel_rfl) (.inl rfl) rfl fun a hK => ?_
                    refine stepM hK 162 12 (by kernel_rfl) (.inl rfl) rfl fun a hK => ?_
                    rcases Bool.eq_false_or_eq_true (!(decide ((((c20.toNat : Nat) : Int) : Int) = 32))) with h27 | h27
                    · refine stepP hK 163 (.bool true) (by kernel_rfl) (okBool (b := (!(decide ((((c20.toNat : Nat) : Int) : Int) = 32)))) (by kernel_rfl) h27) fun a hK => ?_
                      refine stepP hK 164 (.bool true) (by kernel_rfl) (by kernel_rfl) fun a hK => ?_
                      refine stepM hK 165 164 (by kernel_rfl) (.inl rfl) rfl fun a hK => ?_
                      refine stepM hK 166 12 (by kernel_rfl) (.inl rfl) rfl fun a hK => ?_
                      rcases Bool.eq_false_or_eq_true (!(decide ((((c20.toNat : Nat) : Int) : Int) = 9))) with h28 | h28
                      · refine stepP hK 167 (.bool true) (by kernel_rfl) (okBool (b := (!(decide ((((c20.toNat : Nat) : Int) : Int) = 9)))) (by kernel_rfl) h28) fun a hK => ?_
                        refine stepP hK 168 (.bool true) (by kernel_rfl) (by kernel_rfl) fun a hK => ?_
                        refine stepM hK 169 168 (by kernel_rfl) (.inl rfl) rfl fun a hK => ?_
                        refine stepM hK 170 12 (by kernel_rfl) (.inl rfl) rfl fun a hK => ?_
                        refine stepP hK 171 (.bool false) (by kernel_rfl) (okBool (b := (!(decide ((((c20.toNat : Nat) : Int) : Int) = 10)))) (by kernel_rfl) h22) fun a hK => ?_
                        refine stepP hK 172 (.bool false) (by kernel_rfl) (by kernel_rfl) fun a hK => ?_
                        refine stepM hK 173 172 (by kernel_rfl) (.inl rfl) rfl fun a hK => ?_
                        refine stepN hK 174 (by kernel_rfl) fun a hK => ?_
                        refine stepN hK 175 (by kernel_rfl) fun a hK => ?_
                        refine stepP hK 176 (.bool false) (by kernel_rfl) (by kernel_rfl) fun a hK => ?_
                        refine region_done hK [(176, .bool false), (8, .bool false), (12, .int .u8 ((c20.toNat : Nat) : Int)), (132, .bool true), (128, .bool false), (11, .pointer (some ⟨b17, 0, none⟩)), (10, .pointer (some ⟨b16, 0, none⟩)), (80, .bool true), (76, .bool false), (5, .slice (some ⟨g8, 0, none⟩) ((reAt 0 ts2) ++ [endT (jtx (ts2 ++ [endT l]))]).length k9), (6, .pointer (some ⟨b11, 0, none⟩)), (25, .bool false), (3, .slice (some ⟨g4, 0, none⟩) (ts2 ++ [endT l]).length k5), (4, .pointer (some ⟨b7, 0, none⟩)), (17, .bool false), (14, .bool false), (2, .bool false), (0, Str l), (9, .int .i64 ((i : Nat) : Int)), (7, .int .i64 ((q2 : Nat) : Int))] ⟨rfl, rfl, rfl, rfl, rfl, rfl, rfl, rfl, rfl, rfl, rfl, rfl, rfl, rfl, rfl, rfl, rfl, rfl, rfl, rfl, trivial⟩ fun a hK => ?_
                        refine wp_cond_false (hK.get rfl) ?_
                        refine wp_skip ?_
                        refine region_go (lst := [0, 1, 2]) (by kernel_rfl) ?_
                        refine stepM hK 177 7 (by kernel_rfl) (.inl rfl) rfl fun a hK => ?_
                        refine stepP hK 178 (.int .i64 (((q2 + 1) : Nat) : Int)) (by kernel_rfl) (run_addN (i := q2) (j := 1) rfl rfl rfl (by omega)) fun a hK => ?_
                        refine stepM hK 7 178 (by kernel_rfl) (.inr rfl) rfl fun a hK => ?_
                        refine region_done hK [(7, .int .i64 (((q2 + 1) : Nat) : Int)), (176, .bool false), (8, .bool false), (12, .int .u8 ((c20.toNat : Nat) : Int)), (132, .bool true), (128, .bool false), (11, .pointer (some ⟨b17, 0, none⟩)), (10, .pointer (some ⟨b16, 0, none⟩)), (80, .bool true), (76, .bool false), (5, .slice (some ⟨g8, 0, none⟩) ((reAt 0 ts2) ++ [endT (jtx (ts2 ++ [endT l]))]).length k9), (6, .pointer (some ⟨b11, 0, none⟩)), (25, .bool false), (3, .slice (some ⟨g4, 0, none⟩) (ts2 ++ [endT l]).length k5), (4, .pointer (some ⟨b7, 0, none⟩)), (17, .bool false), (14, .bool false), (2, .bool false), (0, Str l), (9, .int .i64 ((i : Nat) : Int))] ⟨rfl, rfl, rfl, rfl, rfl, rfl, rfl, rfl, rfl, rfl, rfl, rfl, rfl, rfl, rfl, rfl, rfl, rfl, rfl, rfl, trivial⟩ fun a hK => ?_
                        have hRn : (q2 + 1) ≤ t14.2 ∧ GapSt l t14.2 false (q2 + 1) := ⟨by omega, hg.2⟩
                        have hmn : t14.2 - (q2 + 1) < t14.2 - q2 := by omega
                        exact ⟨(q2 + 1, false), hK.sub ⟨rfl, rfl, rfl, rfl, rfl, rfl, rfl, rfl, rfl, rfl, rfl, rfl, rfl, rfl, rfl, rfl, rfl, trivial⟩, hM, hRn, hmn⟩
                      · refine stepP hK 167 (.bool false) (by kernel_rfl) (okBool (b := (!(decide ((((c20.toNat : Nat) : Int) : Int) = 9)))) (by kernel_rfl) h28) fun a hK => ?_
                        refine stepP hK 168 (.bool false) (by kernel_rfl) (by kernel_rfl) fun a hK => ?_
                        refine stepM hK 169 168 (by kernel_rfl) (.inl rfl) rfl fun a hK => ?_
                        refine stepN hK 170 (by kernel_rfl) fun a hK => ?_
                        refine stepN hK 171 (by kernel_rfl) fun a hK => ?_
                        refine stepP hK 172 (.bool false) (by kernel_rfl) (by kernel_rfl) fun a hK => ?_
                        refine stepM hK 173 172 (by kernel_rfl) (.inl rfl) rfl fun a hK => ?_
                        refine stepN hK 174 (by kernel_rfl) fun a hK => ?_
                        refine stepN hK 175 (by kernel_rfl) fun a hK => ?_
                        refine stepP hK 176 (.bool false) (by kernel_rfl) (by kernel_rfl) fun a hK => ?_
                        refine region_done hK [(176, .bool false), (8, .bool false), (12, .int .u8 ((c20.toNat : Nat) : Int)), (132, .bool true), (128, .bool false), (11, .pointer (some ⟨b17, 0, none⟩)), (10, .pointer (some ⟨b16, 0, none⟩)), (80, .bool true), (76, .bool false), (5, .slice (some ⟨g8, 0, none⟩) ((reAt 0 ts2) ++ [endT (jtx (ts2 ++ [endT l]))]).length k9), (6, .pointer (some ⟨b11, 0, none⟩)), (25, .bool false), (3, .slice (some ⟨g4, 0, none⟩) (ts2 ++ [endT l]).length k5), (4, .pointer (some ⟨b7, 0, none⟩)), (17, .bool false), (14, .bool false), (2, .bool false), (0, Str l), (9, .int .i64 ((i : Nat) : Int)), (7, .int .i64 ((q2 : Nat) : Int))] ⟨rfl, rfl, rfl, rfl, rfl, rfl, rfl, rfl, rfl, rfl, rfl, rfl, rfl, rfl, rfl, rfl, rfl, rfl, rfl, rfl, trivial⟩ fun a hK => ?_
                        refine wp_cond_false (hK.get rfl) ?_
                        refine wp_skip ?_
                        refine region_go (lst := [0, 1, 2]) (by kernel_rfl) ?_
                        refine stepM hK 177 7 (by kernel_rfl) (.inl rfl) rfl fun a hK => ?_
                        refine stepP hK 178 (.int .i64 (((q2 + 1) : Nat) : Int)) (by kernel_rfl) (run_addN (i := q2) (j := 1) rfl rfl rfl (by omega)) fun a hK => ?_
                        refine stepM hK 7 178 (by kernel_rfl) (.inr rfl) rfl fun a hK => ?_
                        refine region_done hK [(7, .int .i64 (((q2 + 1) : Nat) : Int)), (176, .bool false), (8, .bool false), (12, .int .u8 ((c20.toNat : Nat) : Int)), (132, .bool true), (128, .bool false), (11, .pointer (some ⟨b17, 0, none⟩)), (10, .pointer (some ⟨b16, 0, none⟩)), (80, .bool true), (76, .bool false), (5, .slice (some ⟨g8, 0, none⟩) ((reAt 0 ts2) ++ [endT (jtx (ts2 ++ [endT l]))]).length k9), (6, .pointer (some ⟨b11, 0, none⟩)), (25, .bool false), (3, .slice (some ⟨g4, 0, none⟩) (ts2 ++ [endT l]).length k5), (4, .pointer (some ⟨b7, 0, none⟩)), (17, .bool false), (14, .bool false), (2, .bool false), (0, Str l), (9, .int .i64 ((i : Nat) : Int))] ⟨rfl, rfl, rfl, rfl, rfl, rfl, rfl, rfl, rfl, rfl, rfl, rfl, rfl, rfl, rfl, rfl, rfl, rfl, rfl, rfl, trivial⟩ fun a hK => ?_
                        have hRn : (q2 + 1) ≤ t14.2 ∧ GapSt l t14.2 false (q2 + 1) := ⟨by omega, hg.2⟩
                        have hmn : t14.2 - (q2 + 1) < t14.2 - q2 := by omega
                        exact ⟨(q2 + 1, false), hK.sub ⟨rfl, rfl, rfl, rfl, rfl, rfl, rfl, rfl, rfl, rfl, rfl, rfl, rfl, rfl, rfl, rfl, rfl, trivial⟩, hM, hRn, hmn⟩
                    · refine stepP hK 163 (.bool false) (by kernel_rfl) (okBool (b := (!(decide ((((c20.toNat : Nat) : Int) : Int) = 32)))) (by kernel_rfl) h27) fun a hK => ?_
                      refine stepP hK 164 (.bool false) (by kernel_rfl) (by kernel_rfl) fun a hK => ?_
                      refine stepM hK 165 164 (by kernel_rfl) (.inl rfl) rfl fun a hK => ?_
                      refine stepN hK 166 (by kernel_rfl) fun a hK => ?_
                      refine stepN hK 167 (by kernel_rfl) fun a hK => ?_
                      refine stepP hK 168 (.bool false) (by kernel_rfl) (by kernel_rfl) fun a hK => ?_
                      refine stepM hK 169 168 (by kernel_rfl) (.inl rfl) rfl fun a hK => ?_
                      refine stepN hK 170 (by kernel_rfl) fun a hK => ?_
                      refine stepN hK 171 (by kernel_rfl) fun a hK => ?_
                      refine stepP hK 172 (.bool false) (by kernel_rfl) (by kernel_rfl) fun a hK => ?_
                      refine stepM hK 173 172 (by kernel_rfl) (.inl rfl) rfl fun a hK => ?_
                      refine stepN hK 174 (by kernel_rfl) fun a hK => ?_
                      refine stepN hK 175 (by kernel_rfl) fun a hK => ?_
                      refine stepP hK 176 (.bool false) (by kernel_rfl) (by kernel_rfl) fun a hK => ?_
                      refine region_done hK [(176, .bool false), (8, .bool false), (12, .int .u8 ((c20.toNat : Nat) : Int)), (132, .bool true), (128, .bool false), (11, .pointer (some ⟨b17, 0, none⟩)), (10, .pointer (some ⟨b16, 0, none⟩)), (80, .bool true), (76, .bool false), (5, .slice (some ⟨g8, 0, none⟩) ((reAt 0 ts2) ++ [endT (jtx (ts2 ++ [endT l]))]).length k9), (6, .pointer (some ⟨b11, 0, none⟩)), (25, .bool false), (3, .slice (some ⟨g4, 0, none⟩) (ts2 ++ [endT l]).length k5), (4, .pointer (some ⟨b7, 0, none⟩)), (17, .bool false), (14, .bool false), (2, .bool false), (0, Str l), (9, .int .i64 ((i : Nat) : Int)), (7, .int .i64 ((q2 : Nat) : Int))] ⟨rfl, rfl, rfl, rfl, rfl, rfl, rfl, rfl, rfl, rfl, rfl, rfl, rfl, rfl, rfl, rfl, rfl, rfl, rfl, rfl, trivial⟩ fun a hK => ?_
                      refine wp_cond_false (hK.get rfl) ?_
                      refine wp_skip ?_
                      refine region_go (lst := [0, 1, 2]) (by kernel_rfl) ?_
                      refine stepM hK 177 7 (by kernel_rfl) (.inl rfl) rfl fun a hK => ?_
                      refine stepP hK 178 (.int .i64 (((q2 + 1) : Nat) : Int)) (by kernel_rfl) (run_addN (i := q2) (j := 1) rfl rfl rfl (by omega)) fun a hK => ?_
                      refine stepM hK 7 178 (by kernel_rfl) (.inr rfl) rfl fun a hK => ?_
                      refine region_done hK [(7, .int .i64 (((q2 + 1) : Nat) : Int)), (176, .bool false), (8, .bool false), (12, .int .u8 ((c20.toNat : Nat) : Int)), (132, .bool true), (128, .bool false), (11, .pointer (some ⟨b17, 0, none⟩)), (10, .pointer (some ⟨b16, 0, none⟩)), (80, .bool true), (76, .bool false), (5, .slice (some ⟨g8, 0, none⟩) ((reAt 0 ts2) ++ [endT (jtx (ts2 ++ [endT l]))]).length k9), (6, .pointer (some ⟨b11, 0, none⟩)), (25, .bool false), (3, .slice (some ⟨g4, 0, none⟩) (ts2 ++ [endT l]).length k5), (4, .pointer (some ⟨b7, 0, none⟩)), (17, .bool false), (14, .bool false), (2, .bool false), (0, Str l), (9, .int .i64 ((i : Nat) : Int))] ⟨rfl, rfl, rfl, rfl, rfl, rfl, rfl, rfl, rfl, rfl, rfl, rfl, rfl, rfl, rfl, rfl, rfl, rfl, rfl, rfl, trivial⟩ fun a hK => ?_
                      have hRn : (q2 + 1) ≤ t14.2 ∧ GapSt l t14.2 false (q2 + 1) := ⟨by omega, hg.2⟩
                      have hmn : t14.2 - (q2 + 1) < t14.2 - q2 := by omega
                      exact ⟨(q2 + 1, false), hK.sub ⟨rfl, rfl, rfl, rfl, rfl, rfl, rfl, rfl, rfl, rfl, rfl, rfl, rfl, rfl, rfl, rfl, rfl, trivial⟩, hM, hRn, hmn⟩
                · refine stepP hK 149 (.bool false) (by kernel_rfl) (okBool (b := (decide (((((q2 + 1) : Nat) : Int) : Int) < ((l.length : Nat) : Int)))) (by kernel_rfl) (decide_eq_false h24)) fun a hK => ?_
                  refine stepP hK 150 (.bool false) (by kernel_rfl) (by kernel_rfl) fun a hK => ?_
                  refine stepM hK 151 150 (by kernel_rfl) (.inl rfl) rfl fun a hK => ?_
                  refine stepN hK 152 (by kernel_rfl) fun a hK => ?_
                  refine stepN hK 153 (by kernel_rfl) fun a hK => ?_
                  refine stepN hK 154 (by kernel_rfl) fun a hK => ?_
                  refine stepN hK 155 (by kernel_rfl) fun a hK => ?_
                  refine stepN hK 156 (by kernel_rfl) fun a hK => ?_
                  refine stepP hK 157 (.bool false) (by kernel_rfl) (by kernel_rfl) fun a hK => ?_
                  refine stepP hK 158 (.bool false) (by kernel_rfl) (by kernel_rfl) fun a hK => ?_
                  refine stepM hK 8 158 (by kernel_rfl) (.inr rfl) rfl fun a hK => ?_
                  refine region_done hK [(8, .bool false), (12, .int .u8 ((c20.toNat : Nat) : Int)), (132, .bool true), (128, .bool false), (11, .pointer (some ⟨b17, 0, none⟩)), (10, .pointer (some ⟨b16, 0, none⟩)), (80, .bool true), (76, .bool false), (5, .slice (some ⟨g8, 0, none⟩) ((reAt 0 ts2) ++ [endT (jtx (ts2 ++ [endT l]))]).length k9), (6, .pointer (some ⟨b11, 0, none⟩)), (25, .bool false), (3, .slice (some ⟨g4, 0, none⟩) (ts2 ++ [endT l]).length k5), (4, .pointer (some ⟨b7, 0, none⟩)), (17, .bool false), (14, .bool false), (2, .bool false), (0, Str l), (9, .int .i64 ((i : Nat) : Int)), (7, .int .i64 ((q2 : Nat) : Int))] ⟨rfl, rfl, rfl, rfl, rfl, rfl, rfl, rfl, rfl, rfl, rfl, rfl, rfl, rfl, rfl, rfl, rfl, rfl, rfl, trivial⟩ fun a hK => ?_
                  refine wp_seq ?_
                  refine wp_seq ?_
                  have hrm : rmN l q2 c20 rm = false := rm_no2 (.inr h22) (by omega)
                  have hg := gap_next hR.2 (by omega) hc20
                  rw [hrm] at hg
                  refine region_go (lst := [0, 1, 2, 3, 4, 5, 6, 7, 8, 9, 10, 11, 12, 13, 14, 15, 16, 17]) (by kernel_rfl) ?_
                  refine stepM hK 159 8 (by kernel_rfl) (.inl rfl) rfl fun a hK => ?_
                  refine stepP hK 160 (.bool true) (by kernel_rfl) (by kernel_rfl) fun a hK => ?_
                  refine stepM hK 161 160 (by kernel_rfl) (.inl rfl) rfl fun a hK => ?_
                  refine stepM hK 162 12 (by kernel_rfl) (.inl rfl) rfl fun a hK => ?_
                  rcases Bool.eq_false_or_eq_true (!(decide ((((c20.toNat : Nat) : Int) : Int) = 32))) with h29 | h29
                  · refine stepP hK 163 (.bool true) (by kernel_rfl) (okBool (b := (!(decide ((((c20.toNat : Nat) : Int) : Int) = 32)))) (by kernel_rfl) h29) fun a hK => ?_
                    refine stepP hK 164 (.bool true) (by kernel_rfl) (by kernel_rfl) fun a hK => ?_
                    refine stepM hK 165 164 (by kernel_rfl) (.inl rfl) rfl fun a hK => ?_
                    refine stepM hK 166 12 (by kernel_rfl) (.inl rfl) rfl fun a hK => ?_
                    rcases Bool.eq_false_or_eq_true (!(decide ((((c20.toNat : Nat) : Int) : Int) = 9))) with h30 | h30
                    · refine stepP hK 167 (.bool true) (by kernel_rfl) (okBool (b := (!(decide ((((c20.toNat : Nat) : Int) : Int) = 9)))) (by kernel_rfl) h30) fun a hK => ?_
                      refine stepP hK 168 (.bool true) (by kernel_rfl) (by kernel_rfl) fun a hK => ?_
                      refine stepM hK 169 168 (by kernel_rfl) (.inl rfl) rfl fun a hK => ?_
                      refine stepM hK 170 12 (by kernel_rfl) (.inl rfl) rfl fun a hK => ?_
                      refine stepP hK 171 (.bool false) (by kernel_rfl) (okBool (b := (!(decide ((((c20.toNat : Nat) : Int) : Int) = 10)))) (by kernel_rfl) h22) fun a hK => ?_
                      refine stepP hK 172 (.bool false) (by kernel_rfl) (by kernel_rfl) fun a hK => ?_
                      refine stepM hK 173 172 (by kernel_rfl) (.inl rfl) rfl fun a hK => ?_
                      refine stepN hK 174 (by kernel_rfl) fun a hK => ?_
                      refine stepN hK 175 (by kernel_rfl) fun a hK => ?_
                      refine stepP hK 176 (.bool false) (by kernel_rfl) (by kernel_rfl) fun a hK => ?_
                      refine region_done hK [(176, .bool false), (8, .bool false), (12, .int .u8 ((c20.toNat : Nat) : Int)), (132, .bool true), (128, .bool false), (11, .pointer (some ⟨b17, 0, none⟩)), (10, .pointer (some ⟨b16, 0, none⟩)), (80, .bool true), (76, .bool false), (5, .slice (some ⟨g8, 0, none⟩) ((reAt 0 ts2) ++ [endT (jtx (ts2 ++ [endT l]))]).length k9), (6, .pointer (some ⟨b11, 0, none⟩)), (25, .bool false), (3, .slice (some ⟨g4, 0, none⟩) (ts2 ++ [endT l]).length k5), (4, .pointer (some ⟨b7, 0, none⟩)), (17, .bool false), (14, .bool false), (2, .bool false), (0, Str l), (9, .int .i64 ((i : Nat) : Int)), (7, .int .i64 ((q2 : Nat) : Int))] ⟨rfl, rfl, rfl, rfl, rfl, rfl, rfl, rfl, rfl, rfl, rfl, rfl, rfl, rfl, rfl, rfl, rfl, rfl, rfl, rfl, trivial⟩ fun a hK => ?_
                      refine wp_cond_false (hK.get rfl) ?_
                      refine wp_skip ?_
                      refine region_go (lst := [0, 1, 2]) (by kernel_rfl) ?_
                      refine stepM hK 177 7 (by kernel_rfl) (.inl rfl) rfl fun a hK => ?_
                      refine stepP hK 178 (.int .i64 (((q2 + 1) : Nat) : Int)) (by kernel_rfl) (run_addN (i := q2) (j := 1) rfl rfl rfl (by omega)) fun a hK => ?_
                      refine stepM hK 7 178 (by kernel_rfl) (.inr rfl) rfl fun a hK => ?_
                      refine region_done hK [(7, .int .i64 (((q2 + 1) : Nat) : Int)), (176, .bool false), (8, .bool false), (12, .int .u8 ((c20.toNat : Nat) : Int)), (132, .bool true), (128, .bool false), (11, .pointer (some ⟨b17, 0, none⟩)), (10, .pointer (some ⟨b16, 0, none⟩)), (80, .bool true), (76, .bool false), (5, .slice (some ⟨g8, 0, none⟩) ((reAt 0 ts2) ++ [endT (jtx (ts2 ++ [endT l]))]).length k9), (6, .pointer (some ⟨b11, 0, none⟩)), (25, .bool false), (3, .slice (some ⟨g4, 0, none⟩) (ts2 ++ [endT l]).length k5), (4, .pointer (some ⟨b7, 0, none⟩)), (17, .bool false), (14, .bool false), (2, .bool false), (0, Str l), (9, .int .i64 ((i : Nat) : Int))] ⟨rfl, rfl, rfl, rfl, rfl, rfl, rfl, rfl, rfl, rfl, rfl, rfl, rfl, rfl, rfl, rfl, rfl, rfl, rfl, rfl, trivial⟩ fun a hK => ?_
                      have hRn : (q2 + 1) ≤ t14.2 ∧ GapSt l t14.2 false (q2 + 1) := ⟨by omega, hg.2⟩
                      have hmn : t14.2 - (q2 + 1) < t14.2 - q2 := by omega
                      exact ⟨(q2 + 1, false), hK.sub ⟨rfl, rfl, rfl, rfl, rfl, rfl, rfl, rfl, rfl, rfl, rfl, rfl, rfl, rfl, rfl, rfl, rfl, trivial⟩, hM, hRn, hmn⟩
                    · refine stepP hK 167 (.bool false) (by kernel_rfl) (okBool (b := (!(decide ((((c20.toNat : Nat) : Int) : Int) = 9)))) (by kernel_rfl) h30) fun a hK => ?_
                      refine stepP hK 168 (.bool false) (by kernel_rfl) (by kernel_rfl) fun a hK => ?_
                      refine stepM hK 169 168 (by kernel_rfl) (.inl rfl) rfl fun a hK => ?_
                      refine stepN hK 170 (by kernel_rfl) fun a hK => ?_
                      refine stepN hK 171 (by kernel_rfl) fun a hK => ?_
                      refine stepP hK 172 (.bool false) (by kernel_rfl) (by kernel_rfl) fun a hK => ?_
                      refine stepM hK 173 172 (by kernel_rfl) (.inl rfl) rfl fun a hK => ?_
                      refine stepN hK 174 (by kernel_rfl) fun a hK => ?_
                      refine stepN hK 175 (by kernel_rfl) fun a hK => ?_
                      refine stepP hK 176 (.bool false) (by kernel_rfl) (by kernel_rfl) fun a hK => ?_
                      refine region_done hK [(176, .bool false), (8, .bool false), (12, .int .u8 ((c20.toNat : Nat) : Int)), (132, .bool true), (128, .bool false), (11, .pointer (some ⟨b17, 0, none⟩)), (10, .pointer (some ⟨b16, 0, none⟩)), (80, .bool true), (76, .bool false), (5, .slice (some ⟨g8, 0, none⟩) ((reAt 0 ts2) ++ [endT (jtx (ts2 ++ [endT l]))]).length k9), (6, .pointer (some ⟨b11, 0, none⟩)), (25, .bool false), (3, .slice (some ⟨g4, 0, none⟩) (ts2 ++ [endT l]).length k5), (4, .pointer (some ⟨b7, 0, none⟩)), (17, .bool false), (14, .bool false), (2, .bool false), (0, Str l), (9, .int .i64 ((i : Nat) : Int)), (7, .int .i64 ((q2 : Nat) : Int))] ⟨rfl, rfl, rfl, rfl, rfl, rfl, rfl, rfl, rfl, rfl, rfl, rfl, rfl, rfl, rfl, rfl, rfl, rfl, rfl, rfl, trivial⟩ fun a hK => ?_
                      refine wp_cond_false (hK.get rfl) ?_
                      refine wp_skip ?_
                      refine region_go (lst := [0, 1, 2]) (by kernel_rfl) ?_
                      refine stepM hK 177 7 (by kernel_rfl) (.inl rfl) rfl fun a hK => ?_
                      refine stepP hK 178 (.int .i64 (((q2 + 1) : Nat) : Int)) (by kernel_rfl) (run_addN (i := q2) (j := 1) rfl rfl rfl (by omega)) fun a hK => ?_
                      refine stepM hK 7 178 (by kernel_rfl) (.inr rfl) rfl fun a hK => ?_
                      refine region_done hK [(7, .int .i64 (((q2 + 1) : Nat) : Int)), (176, .bool false), (8, .bool false), (12, .int .u8 ((c20.toNat : Nat) : Int)), (132, .bool true), (128, .bool false), (11, .pointer (some ⟨b17, 0, none⟩)), (10, .pointer (some ⟨b16, 0, none⟩)), (80, .bool true), (76, .bool false), (5, .slice (some ⟨g8, 0, none⟩) ((reAt 0 ts2) ++ [endT (jtx (ts2 ++ [endT l]))]).length k9), (6, .pointer (some ⟨b11, 0, none⟩)), (25, .bool false), (3, .slice (some ⟨g4, 0, none⟩) (ts2 ++ [endT l]).length k5), (4, .pointer (some ⟨b7, 0, none⟩)), (17, .bool false), (14, .bool false), (2, .bool false), (0, Str l), (9, .int .i64 ((i : Nat) : Int))] ⟨rfl, rfl, rfl, rfl, rfl, rfl, rfl, rfl, rfl, rfl, rfl, rfl, rfl, rfl, rfl, rfl, rfl, rfl, rfl, rfl, trivial⟩ fun a hK => ?_
                      have hRn : (q2 + 1) ≤ t14.2 ∧ GapSt l t14.2 false (q2 + 1) := ⟨by omega, hg.2⟩
                      have hmn : t14.2 - (q2 + 1) < t14.2 - q2 := by omega
                      exact ⟨(q2 + 1, false), hK.sub ⟨rfl, rfl, rfl, rfl, rfl, rfl, rfl, rfl, rfl, rfl, rfl, rfl, rfl, rfl, rfl, rfl, rfl, trivial⟩, hM, hRn, hmn⟩
                  · refine stepP hK 163 (.bool false) (by kernel_rfl) (okBool (b := (!(decide ((((c20.toNat : Nat) : Int) : Int) = 32)))) (by kernel_rfl) h29) fun a hK => ?_
                    refine stepP hK 164 (.bool false) (by kernel_rfl) (by kernel_rfl) fun a hK => ?_
                    refine stepM hK 165 164 (by kernel_rfl) (.inl rfl) rfl fun a hK => ?_
                    refine stepN hK 166 (by kernel_rfl) fun a hK => ?_
                    refine stepN hK 167 (by kernel_rfl) fun a hK => ?_
                    refine stepP hK 168 (.bool false) (by kernel_rfl) (by kernel_rfl) fun a hK => ?_
                    refine stepM hK 169 168 (by kernel_rfl) (.inl rfl) rfl fun a hK => ?_
                    refine stepN hK 170 (by kernel_rfl) fun a hK => ?_
                    refine stepN hK 171 (by kernel_rfl) fun a hK => ?_
                    refine stepP hK 172 (.bool false) (by kernel_rfl) (by kernel_rfl) fun a hK => ?_
                    refine stepM hK 173 172 (by kernel_rfl) (.inl rfl) rfl fun a hK => ?_
                    refine stepN hK 174 (by kernel_rfl) fun a hK => ?_
                    refine stepN hK 175 (by kernel_rfl) fun a hK => ?_
                    refine stepP hK 176 (.bool false) (by kernel_rfl) (by kernel_rfl) fun a hK => ?_
                    refine region_done hK [(176, .bool false), (8, .bool false), (12, .int .u8 ((c20.toNat : Nat) : Int)), (132, .bool true), (128, .bool false), (11, .pointer (some ⟨b17, 0, none⟩)), (10, .pointer (some ⟨b16, 0, none⟩)), (80, .bool true), (76, .bool false), (5, .slice (some ⟨g8, 0, none⟩) ((reAt 0 ts2) ++ [endT (jtx (ts2 ++ [endT l]))]).length k9), (6, .pointer (some ⟨b11, 0, none⟩)), (25, .bool false), (3, .slice (some ⟨g4, 0, none⟩) (ts2 ++ [endT l]).length k5), (4, .pointer (some ⟨b7, 0, none⟩)), (17, .bool false), (14, .bool false), (2, .bool false), (0, Str l), (9, .int .i64 ((i : Nat) : Int)), (7, .int .i64 ((q2 : Nat) : Int))] ⟨rfl, rfl, rfl, rfl, rfl, rfl, rfl, rfl, rfl, rfl, rfl, rfl, rfl, rfl, rfl, rfl, rfl, rfl, rfl, rfl, trivial⟩ fun a hK => ?_
                    refine wp_cond_false (hK.get rfl) ?_
                    refine wp_skip ?_
                    refine region_go (lst := [0, 1, 2]) (by kernel_rfl) ?_
                    refine stepM hK 177 7 (by kernel_rfl) (.inl rfl) rfl fun a hK => ?_
                    refine stepP hK 178 (.int .i64 (((q2 + 1) : Nat) : Int)) (by kernel_rfl) (run_addN (i := q2) (j := 1) rfl rfl rfl (by omega)) fun a hK => ?_
                    refine stepM hK 7 178 (by kernel_rfl) (.inr rfl) rfl fun a hK => ?_
                    refine region_done hK [(7, .int .i64 (((q2 + 1) : Nat) : Int)), (176, .bool false), (8, .bool false), (12, .int .u8 ((c20.toNat : Nat) : Int)), (132, .bool true), (128, .bool false), (11, .pointer (some ⟨b17, 0, none⟩)), (10, .pointer (some ⟨b16, 0, none⟩)), (80, .bool true), (76, .bool false), (5, .slice (some ⟨g8, 0, none⟩) ((reAt 0 ts2) ++ [endT (jtx (ts2 ++ [endT l]))]).length k9), (6, .pointer (some ⟨b11, 0, none⟩)), (25, .bool false), (3, .slice (some ⟨g4, 0, none⟩) (ts2 ++ [endT l]).length k5), (4, .pointer (some ⟨b7, 0, none⟩)), (17, .bool false), (14, .bool false), (2, .bool false), (0, Str l), (9, .int .i64 ((i : Nat) : Int))] ⟨rfl, rfl, rfl, rfl, rfl, rfl, rfl, rfl, rfl, rfl, rfl, rfl, rfl, rfl, rfl, rfl, rfl, rfl, rfl, rfl, trivial⟩ fun a hK => ?_
                    have hRn : (q2 + 1) ≤ t14.2 ∧ GapSt l t14.2 false (q2 + 1) := ⟨by omega, hg.2⟩
                    have hmn : t14.2 - (q2 + 1) < t14.2 - q2 := by omega
                    exact ⟨(q2 + 1, false), hK.sub ⟨rfl, rfl, rfl, rfl, rfl, rfl, rfl, rfl, rfl, rfl, rfl, rfl, rfl, rfl, rfl, rfl, rfl, trivial⟩, hM, hRn, hmn⟩
              · refine stepP hK 143 (.bool false) (by kernel_rfl) (okBool (b := (decide ((((c20.toNat : Nat) : Int) : Int) = 47))) (by kernel_rfl) (decide_eq_false h23)) fun a hK => ?_
                refine stepM hK 144 143 (by kernel_rfl) (.inl rfl) rfl fun a hK => ?_
                refine stepN hK 145 (by kernel_rfl) fun a hK => ?_
                refine stepN hK 146 (by kernel_rfl) fun a hK => ?_
                refine stepN hK 147 (by kernel_rfl) fun a hK => ?_
                refine stepN hK 148 (by kernel_rfl) fun a hK => ?_
                refine stepN hK 149 (by kernel_rfl) fun a hK => ?_
                refine stepP hK 150 (.bool false) (by kernel_rfl) (by kernel_rfl) fun a hK => ?_
                refine stepM hK 151 150 (by kernel_rfl) (.inl rfl) rfl fun a hK => ?_
                refine stepN hK 152 (by kernel_rfl) fun a hK => ?_
                refine stepN hK 153 (by kernel_rfl) fun a hK => ?_
                refine stepN hK 154 (by kernel_rfl) fun a hK => ?_
                refine stepN hK 155 (by kernel_rfl) fun a hK => ?_
                refine stepN hK 156 (by kernel_rfl) fun a hK => ?_
                refine stepP hK 157 (.bool false) (by kernel_rfl) (by kernel_rfl) fun a hK => ?_
                refine stepP hK 158 (.bool false) (by kernel_rfl) (by kernel_rfl) fun a hK => ?_
                refine stepM hK 8 158 (by kernel_rfl) (.inr rfl) rfl fun a hK => ?_
                refine region_done hK [(8, .bool false), (12, .int .u8 ((c20.toNat : Nat) : Int)), (132, .bool true), (128, .bool false), (11, .pointer (some ⟨b17, 0, none⟩)), (10, .pointer (some ⟨b16, 0, none⟩)), (80, .bool true), (76, .bool false), (5, .slice (some ⟨g8, 0, none⟩) ((reAt 0 ts2) ++ [endT (jtx (ts2 ++ [endT l]))]).length k9), (6, .pointer (some ⟨b11, 0, none⟩)), (25, .bool false), (3, .slice (some ⟨g4, 0, none⟩) (ts2 ++ [endT l]).length k5), (4, .pointer (some ⟨b7, 0, none⟩)), (17, .bool false), (14, .bool false), (2, .bool false), (0, Str l), (9, .int .i64 ((i : Nat) : Int)), (7, .int .i64 ((q2 : Nat) : Int))] ⟨rfl, rfl, rfl, rfl, rfl, rfl, rfl, rfl, rfl, rfl, rfl, rfl, rfl, rfl, rfl, rfl, rfl, rfl, rfl, trivial⟩ fun a hK => ?_
                refine wp_seq ?_
                refine wp_seq ?_
                have hrm : rmN l q2 c20 rm = false := rm_no1 (.inr h22) h23
                have hg := gap_next hR.2 (by omega) hc20
                rw [hrm] at hg
                refine region_go (lst := [0, 1, 2, 3, 4, 5, 6, 7, 8, 9, 10, 11, 12, 13, 14, 15, 16, 17]) (by kernel_rfl) ?_
                refine stepM hK 159 8 (by kernel_rfl) (.inl rfl) rfl fun a hK => ?_
                refine stepP hK 160 (.bool true) (by kernel_rfl) (by kernel_rfl) fun a hK => ?_
                refine stepM hK 161 160 (by kernel_rfl) (.inl rfl) rfl fun a hK => ?_
                refine stepM hK 162 12 (by kernel_rfl) (.inl rfl) rfl fun a hK => ?_
                rcases Bool.eq_false_or_eq_true (!(decide ((((c20.toNat : Nat) : Int) : Int) = 32))) with h31 | h31
                · refine stepP hK 163 (.bool true) (by kernel_rfl) (okBool (b := (!(decide ((((c20.toNat : Nat) : Int) : Int) = 32)))) (by kernel_rfl) h31) fun a hK => ?_
                  refine stepP hK 164 (.bool true) (by kernel_rfl) (by kernel_rfl) fun a hK => ?_
                  refine stepM hK 165 164 (by kernel_rfl) (.inl rfl) rfl fun a hK => ?_
                  refine stepM hK 166 12 (by kernel_rfl) (.inl rfl) rfl fun a hK => ?_
                  rcases Bool.eq_false_or_eq_true (!(decide ((((c20.toNat : Nat) : Int) : Int) = 9))) with h32 | h32
                  · refine stepP hK 167 (.bool true) (by kernel_rfl) (okBool (b := (!(decide ((((c20.toNat : Nat) : Int) : Int) = 9)))) (by kernel_rfl) h32) fun a hK => ?_
                    refine stepP hK 168 (.bool true) (by kernel_rfl) (by kernel_rfl) fun a hK => ?_
                    refine stepM hK 169 168 (by kernel_rfl) (.inl rfl) rfl fun a hK => ?_
                    refine stepM hK 170 12 (by kernel_rfl) (.inl rfl) rfl fun a hK => ?_
                    refine stepP hK 171 (.bool false) (by kernel_rfl) (okBool (b := (!(decide ((((c20.toNat : Nat) : Int) : Int) = 10)))) (by kernel_rfl) h22) fun a hK => ?_
                    refine stepP hK 172 (.bool false) (by kernel_rfl) (by kernel_rfl) fun a hK => ?_
                    refine stepM hK 173 172 (by kernel_rfl) (.inl rfl) rfl fun a hK => ?_
                    refine stepN hK 174 (by kernel_rfl) fun a hK => ?_
                    refine stepN hK 175 (by kernel_rfl) fun a hK => ?_
                    refine stepP hK 176 (.bool false) (by kernel_rfl) (by kernel_rfl) fun a hK => ?_
                    refine region_done hK [(176, .bool false), (8, .bool false), (12, .int .u8 ((c20.toNat : Nat) : Int)), (132, .bool true), (128, .bool false), (11, .pointer (some ⟨b17, 0, none⟩)), (10, .pointer (some ⟨b16, 0, none⟩)), (80, .bool true), (76, .bool false), (5, .slice (some ⟨g8, 0, none⟩) ((reAt 0 ts2) ++ [endT (jtx (ts2 ++ [endT l]))]).length k9), (6, .pointer (some ⟨b11, 0, none⟩)), (25, .bool false), (3, .slice (some ⟨g4, 0, none⟩) (ts2 ++ [endT l]).length k5), (4, .pointer (some ⟨b7, 0, none⟩)), (17, .bool false), (14, .bool false), (2, .bool false), (0, Str l), (9, .int .i64 ((i : Nat) : Int)), (7, .int .i64 ((q2 : Nat) : Int))] ⟨rfl, rfl, rfl, rfl, rfl, rfl, rfl, rfl, rfl, rfl, rfl, rfl, rfl, rfl, rfl, rfl, rfl, rfl, rfl, rfl, trivial⟩ fun a hK => ?_
                    refine wp_cond_false (hK.get rfl) ?_
                    refine wp_skip ?_
                    refine region_go (lst := [0, 1, 2]) (by kernel_rfl) ?_
                    refine stepM hK 177 7 (by kernel_rfl) (.inl rfl) rfl fun a hK => ?_
                    refine stepP hK 178 (.int .i64 (((q2 + 1) : Nat) : Int)) (by kernel_rfl) (run_addN (i := q2) (j := 1) rfl rfl rfl (by omega)) fun a hK => ?_
                    refine stepM hK 7 178 (by kernel_rfl) (.inr rfl) rfl fun a hK => ?_
                    refine region_done hK [(7, .int .i64 (((q2 + 1) : Nat) : Int)), (176, .bool false), (8, .bool false), (12, .int .u8 ((c20.toNat : Nat) : Int)), (132, .bool true), (128, .bool false), (11, .pointer (some ⟨b17, 0, none⟩)), (10, .pointer (some ⟨b16, 0, none⟩)), (80, .bool true), (76, .bool false), (5, .slice (some ⟨g8, 0, none⟩) ((reAt 0 ts2) ++ [endT (jtx (ts2 ++ [endT l]))]).length k9), (6, .pointer (some ⟨b11, 0, none⟩)), (25, .bool false), (3, .slice (some ⟨g4, 0, none⟩) (ts2 ++ [endT l]).length k5), (4, .pointer (some ⟨b7, 0, none⟩)), (17, .bool false), (14, .bool false), (2, .bool false), (0, Str l), (9, .int .i64 ((i : Nat) : Int))] ⟨rfl, rfl, rfl, rfl, rfl, rfl, rfl, rfl, rfl, rfl, rfl, rfl, rfl, rfl, rfl, rfl, rfl, rfl, rfl, rfl, trivial⟩ fun a hK => ?_
                    have hRn : (q2 + 1) ≤ t14.2 ∧ GapSt l t14.2 false (q2 + 1) := ⟨by omega, hg.2⟩
                    have hmn : t14.2 - (q2 + 1) < t14.2 - q2 := by omega
                    exact ⟨(q2 + 1, false), hK.sub ⟨rfl, rfl, rfl, rfl, rfl, rfl, rfl, rfl, rfl, rfl, rfl, rfl, rfl, rfl, rfl, rfl, rfl, trivial⟩, hM, hRn, hmn⟩
                  · refine stepP hK 167 (.bool false) (by kernel_rfl) (okBool (b := (!(decide ((((c20.toNat : Nat) : Int) : Int) = 9)))) (by kernel_rfl) h32) fun a hK => ?_
                    refine stepP hK 168 (.bool false) (by kernel_rfl) (by kernel_rfl) fun a hK => ?_
                    refine stepM hK 169 168 (by kernel_rfl) (.inl rfl) rfl fun a hK => ?_
                    refine stepN hK 170 (by kernel_rfl) fun a hK => ?_
                    refine stepN hK 171 (by kernel_rfl) fun a hK => ?_
                    refine stepP hK 172 (.bool false) (by kernel_rfl) (by kernel_rfl) fun a hK => ?_
                    refine stepM hK 173 172 (by kernel_rfl) (.inl rfl) rfl fun a hK => ?_
                    refine stepN hK 174 (by kernel_rfl) fun a hK => ?_
                    refine stepN hK 175 (by kernel_rfl) fun a hK => ?_
                    refine stepP hK 176 (.bool false) (by kernel_rfl) (by kernel_rfl) fun a hK => ?_
                    refine region_done hK [(176, .bool false), (8, .bool false), (12, .int .u8 ((c20.toNat : Nat) : Int)), (132, .bool true), (128, .bool false), (11, .pointer (some ⟨b17, 0, none⟩)), (10, .pointer (some ⟨b16, 0, none⟩)), (80, .bool true), (76, .bool false), (5, .slice (some ⟨g8, 0, none⟩) ((reAt 0 ts2) ++ [endT (jtx (ts2 ++ [endT l]))]).length k9), (6, .pointer (some ⟨b11, 0, none⟩)), (25, .bool false), (3, .slice (some ⟨g4, 0, none⟩) (ts2 ++ [endT l]).length k5), (4, .pointer (some ⟨b7, 0, none⟩)), (17, .bool false), (14, .bool false), (2, .bool false), (0, Str l), (9, .int .i64 ((i : Nat) : Int)), (7, .int .i64 ((q2 : Nat) : Int))] ⟨rfl, rfl, rfl, rfl, rfl, rfl, rfl, rfl, rfl, rfl, rfl, rfl, rfl, rfl, rfl, rfl, rfl, rfl, rfl, rfl, trivial⟩ fun a hK => ?_
                    refine wp_cond_false (hK.get rfl) ?_
                    refine wp_skip ?_
                    refine region_go (lst := [0, 1, 2]) (by kernel_rfl) ?_
                    refine stepM hK 177 7 (by kernel_rfl) (.inl rfl) rfl fun a hK => ?_
                    refine stepP hK 178 (.int .i64 (((q2 + 1) : Nat) : Int)) (by kernel_rfl) (run_addN (i := q2) (j := 1) rfl rfl rfl (by omega)) fun a hK => ?_
                    refine stepM hK 7 178 (by kernel_rfl) (.inr rfl) rfl fun a hK => ?_
                    refine region_done hK [(7, .int .i64 (((q2 + 1) : Nat) : Int)), (176, .bool false), (8, .bool false), (12, .int .u8 ((c20.toNat : Nat) : Int)), (132, .bool true), (128, .bool false), (11, .pointer (some ⟨b17, 0, none⟩)), (10, .pointer (some ⟨b16, 0, none⟩)), (80, .bool true), (76, .bool false), (5, .slice (some ⟨g8, 0, none⟩) ((reAt 0 ts2) ++ [endT (jtx (ts2 ++ [endT l]))]).length k9), (6, .pointer (some ⟨b11, 0, none⟩)), (25, .bool false), (3, .slice (some ⟨g4, 0, none⟩) (ts2 ++ [endT l]).length k5), (4, .pointer (some ⟨b7, 0, none⟩)), (17, .bool false), (14, .bool false), (2, .bool false), (0, Str l), (9, .int .i64 ((i : Nat) : Int))] ⟨rfl, rfl, rfl, rfl, rfl, rfl, rfl, rfl, rfl, rfl, rfl, rfl, rfl, rfl, rfl, rfl, rfl, rfl, rfl, rfl, trivial⟩ fun a hK => ?_
                    have hRn : (q2 + 1) ≤ t14.2 ∧ GapSt l t14.2 false (q2 + 1) := ⟨by omega, hg.2⟩
                    have hmn : t14.2 - (q2 + 1) < t14.2 - q2 := by omega
                    exact ⟨(q2 + 1, false), hK.sub ⟨rfl, rfl, rfl, rfl, rfl, rfl, rfl, rfl, rfl, rfl, rfl, rfl, rfl, rfl, rfl, rfl, rfl, trivial⟩, hM, hRn, hmn⟩
                · refine stepP hK 163 (.bool false) (by kernel_rfl) (okBool (b := (!(decide ((((c20.toNat : Nat) : Int) : Int) = 32)))) (by kernel_rfl) h31) fun a hK => ?_
                  refine stepP hK 164 (.bool false) (by kernel_rfl) (by kernel_rfl) fun a hK => ?_
                  refine stepM hK 165 164 (by kernel_rfl) (.inl rfl) rfl fun a hK => ?_
                  refine stepN hK 166 (by kernel_rfl) fun a hK => ?_
                  refine stepN hK 167 (by kernel_rfl) fun a hK => ?_
                  refine stepP hK 168 (.bool false) (by kernel_rfl) (by kernel_rfl) fun a hK => ?_
                  refine stepM hK 169 168 (by kernel_rfl) (.inl rfl) rfl fun a hK => ?_
                  refine stepN hK 170 (by kernel_rfl) fun a hK => ?_
                  refine stepN hK 171 (by kernel_rfl) fun a hK => ?_
                  refine stepP hK 172 (.bool false) (by kernel_rfl) (by kernel_rfl) fun a hK => ?_
                  refine stepM hK 173 172 (by kernel_rfl) (.inl rfl) rfl fun a hK => ?_
                  refine stepN hK 174 (by kernel_rfl) fun a hK => ?_
                  refine stepN hK 175 (by kernel_rfl) fun a hK => ?_
                  refine stepP hK 176 (.bool false) (by kernel_rfl) (by kernel_rfl) fun a hK => ?_
                  refine region_done hK [(176, .bool false), (8, .bool false), (12, .int .u8 ((c20.toNat : Nat) : Int)), (132, .bool true), (128, .bool false), (11, .pointer (some ⟨b17, 0, none⟩)), (10, .pointer (some ⟨b16, 0, none⟩)), (80, .bool true), (76, .bool false), (5, .slice (some ⟨g8, 0, none⟩) ((reAt 0 ts2) ++ [endT (jtx (ts2 ++ [endT l]))]).length k9), (6, .pointer (some ⟨b11, 0, none⟩)), (25, .bool false), (3, .slice (some ⟨g4, 0, none⟩) (ts2 ++ [endT l]).length k5), (4, .pointer (some ⟨b7, 0, none⟩)), (17, .bool false), (14, .bool false), (2, .bool false), (0, Str l), (9, .int .i64 ((i : Nat) : Int)), (7, .int .i64 ((q2 : Nat) : Int))] ⟨rfl, rfl, rfl, rfl, rfl, rfl, rfl, rfl, rfl, rfl, rfl, rfl, rfl, rfl, rfl, rfl, rfl, rfl, rfl, rfl, trivial⟩ fun a hK => ?_
                  refine wp_cond_false (hK.get rfl) ?_
                  refine wp_skip ?_
                  refine region_go (lst := [0, 1, 2]) (by kernel_rfl) ?_
                  refine stepM hK 177 7 (by kernel_rfl) (.inl rfl) rfl fun a hK => ?_
                  refine stepP hK 178 (.int .i64 (((q2 + 1) : Nat) : Int)) (by kernel_rfl) (run_addN (i := q2) (j := 1) rfl rfl rfl (by omega)) fun a hK => ?_
                  refine stepM hK 7 178 (by kernel_rfl) (.inr rfl) rfl fun a hK => ?_
                  refine region_done hK [(7, .int .i64 (((q2 + 1) : Nat) : Int)), (176, .bool false), (8, .bool false), (12, .int .u8 ((c20.toNat : Nat) : Int)), (132, .bool true), (128, .bool false), (11, .pointer (some ⟨b17, 0, none⟩)), (10, .pointer (some ⟨b16, 0, none⟩)), (80, .bool true), (76, .bool false), (5, .slice (some ⟨g8, 0, none⟩) ((reAt 0 ts2) ++ [endT (jtx (ts2 ++ [endT l]))]).length k9), (6, .pointer (some ⟨b11, 0, none⟩)), (25, .bool false), (3, .slice (some ⟨g4, 0, none⟩) (ts2 ++ [endT l]).length k5), (4, .pointer (some ⟨b7, 0, none⟩)), (17, .bool false), (14, .bool false), (2, .bool false), (0, Str l), (9, .int .i64 ((i : Nat) : Int))] ⟨rfl, rfl, rfl, rfl, rfl, rfl, rfl, rfl, rfl, rfl, rfl, rfl, rfl, rfl, rfl, rfl, rfl, rfl, rfl, rfl, trivial⟩ fun a hK => ?_
                  have hRn : (q2 + 1) ≤ t14.2 ∧ GapSt l t14.2 false (q2 + 1) := ⟨by omega, hg.2⟩
                  have hmn : t14.2 - (q2 + 1) < t14.2 - q2 := by omega
                  exact ⟨(q2 + 1, false), hK.sub ⟨rfl, rfl, rfl, rfl, rfl, rfl, rfl, rfl, rfl, rfl, rfl, rfl, rfl, rfl, rfl, rfl, rfl, trivial⟩, hM, hRn, hmn⟩
          · refine stepP hK 136 (.bool false) (by kernel_rfl) (okBool (b := rm) (by kernel_rfl) h21) fun a hK => ?_
            refine stepM hK 137 136 (by kernel_rfl) (.inl rfl) rfl fun a hK => ?_
            refine stepN hK 138 (by kernel_rfl) fun a hK => ?_
            refine stepN hK 139 (by kernel_rfl) fun a hK => ?_
            refine stepP hK 140 (.bool false) (by kernel_rfl) (by kernel_rfl) fun a hK => ?_
            refine stepM hK 141 140 (by kernel_rfl) (.inl rfl) rfl fun a hK => ?_
            refine stepM hK 142 12 (by kernel_rfl) (.inl rfl) rfl fun a hK => ?_
            by_cases h33 : (((c20.toNat : Nat) : Int) : Int) = 47
            · refine stepP hK 143 (.bool true) (by kernel_rfl) (okBool (b := (decide ((((c20.toNat : Nat) : Int) : Int) = 47))) (by kernel_rfl) (decide_eq_true h33)) fun a hK => ?_
              refine stepM hK 144 143 (by kernel_rfl) (.inl rfl) rfl fun a hK => ?_
              refine stepM hK 145 7 (by kernel_rfl) (.inl rfl) rfl fun a hK => ?_
              refine stepP hK 146 (.int .i64 (((q2 + 1) : Nat) : Int)) (by kernel_rfl) (run_addN (i := q2) (j := 1) rfl rfl rfl (by omega)) fun a hK => ?_
              refine stepM hK 147 0 (by kernel_rfl) (.inl rfl) rfl fun a hK => ?_
              refine stepP hK 148 (.int .i64 ((l.length : Nat) : Int)) (by kernel_rfl) (by kernel_rfl) fun a hK => ?_
              by_cases h34 : ((((q2 + 1) : Nat) : Int) : Int) < ((l.length : Nat) : Int)
              · refine stepP hK 149 (.bool true) (by kernel_rfl) (okBool (b := (decide (((((q2 + 1) : Nat) : Int) : Int) < ((l.length : Nat) : Int)))) (by kernel_rfl) (decide_eq_true h34)) fun a hK => ?_
                refine stepP hK 150 (.bool true) (by kernel_rfl) (by kernel_rfl) fun a hK => ?_
                refine stepM hK 151 150 (by kernel_rfl) (.inl rfl) rfl fun a hK => ?_
                refine stepM hK 152 0 (by kernel_rfl) (.inl rfl) rfl fun a hK => ?_
                refine stepM hK 153 7 (by kernel_rfl) (.inl rfl) rfl fun a hK => ?_
                refine stepP hK 154 (.int .i64 (((q2 + 1) : Nat) : Int)) (by kernel_rfl) (run_addN (i := q2) (j := 1) rfl rfl rfl (by omega)) fun a hK => ?_
                obtain ⟨c35, hc35⟩ : ∃ c, l[((q2 + 1) : Nat)]? = some c := ⟨_, List.getElem?_eq_getElem (by omega)⟩
                refine stepP hK 155 (.int .u8 ((c35.toNat : Nat) : Int)) (by kernel_rfl) (run_idxS (k := (q2 + 1)) rfl rfl rfl hc35) fun a hK => ?_
                by_cases h36 : (((c35.toNat : Nat) : Int) : Int) = 47
                · refine stepP hK 156 (.bool true) (by kernel_rfl) (okBool (b := (decide ((((c35.toNat : Nat) : Int) : Int) = 47))) (by kernel_rfl) (decide_eq_true h36)) fun a hK => ?_
                  refine stepP hK 157 (.bool true) (by kernel_rfl) (by kernel_rfl) fun a hK => ?_
                  refine stepP hK 158 (.bool true) (by kernel_rfl) (by kernel_rfl) fun a hK => ?_
                  refine stepM hK 8 158 (by kernel_rfl) (.inr rfl) rfl fun a hK => ?_
                  refine region_done hK [(8, .bool true), (12, .int .u8 ((c20.toNat : Nat) : Int)), (132, .bool true), (128, .bool false), (11, .pointer (some ⟨b17, 0, none⟩)), (10, .pointer (some ⟨b16, 0, none⟩)), (80, .bool true), (76, .bool false), (5, .slice (some ⟨g8, 0, none⟩) ((reAt 0 ts2) ++ [endT (jtx (ts2 ++ [endT l]))]).length k9), (6, .pointer (some ⟨b11, 0, none⟩)), (25, .bool false), (3, .slice (some ⟨g4, 0, none⟩) (ts2 ++ [endT l]).length k5), (4, .pointer (some ⟨b7, 0, none⟩)), (17, .bool false), (14, .bool false), (2, .bool false), (0, Str l), (9, .int .i64 ((i : Nat) : Int)), (7, .int .i64 ((q2 : Nat) : Int))] ⟨rfl, rfl, rfl, rfl, rfl, rfl, rfl, rfl, rfl, rfl, rfl, rfl, rfl, rfl, rfl, rfl, rfl, rfl, rfl, trivial⟩ fun a hK => ?_
                  refine wp_seq ?_
                  refine wp_seq ?_
                  have hrm : rmN l q2 c20 rm = true := rm_new h33 hc35 h36
                  have hg := gap_next hR.2 (by omega) hc20
                  rw [hrm] at hg
                  refine region_go (lst := [0, 1, 2, 3, 4, 5, 6, 7, 8, 9, 10, 11, 12, 13, 14, 15, 16, 17]) (by kernel_rfl) ?_
                  refine stepM hK 159 8 (by kernel_rfl) (.inl rfl) rfl fun a hK => ?_
                  refine stepP hK 160 (.bool false) (by kernel_rfl) (by kernel_rfl) fun a hK => ?_
                  refine stepM hK 161 160 (by kernel_rfl) (.inl rfl) rfl fun a hK => ?_
                  refine stepN hK 162 (by kernel_rfl) fun a hK => ?_
                  refine stepN hK 163 (by kernel_rfl) fun a hK => ?_
                  refine stepP hK 164 (.bool false) (by kernel_rfl) (by kernel_rfl) fun a hK => ?_
                  refine stepM hK 165 164 (by kernel_rfl) (.inl rfl) rfl fun a hK => ?_
                  refine stepN hK 166 (by kernel_rfl) fun a hK => ?_
                  refine stepN hK 167 (by kernel_rfl) fun a hK => ?_
                  refine stepP hK 168 (.bool false) (by kernel_rfl) (by kernel_rfl) fun a hK => ?_
                  refine stepM hK 169 168 (by kernel_rfl) (.inl rfl) rfl fun a hK => ?_
                  refine stepN hK 170 (by kernel_rfl) fun a hK => ?_
                  refine stepN hK 171 (by kernel_rfl) fun a hK => ?_
                  refine stepP hK 172 (.bool false) (by kernel_rfl) (by kernel_rfl) fun a hK => ?_
                  refine stepM hK 173 172 (by kernel_rfl) (.inl rfl) rfl fun a hK => ?_
                  refine stepN hK 174 (by kernel_rfl) fun a hK => ?_
                  refine stepN hK 175 (by kernel_rfl) fun a hK => ?_
                  refine stepP hK 176 (.bool false) (by kernel_rfl) (by kernel_rfl) fun a hK => ?_
                  refine region_done hK [(176, .bool false), (8, .bool true), (12, .int .u8 ((c20.toNat : Nat) : Int)), (132, .bool true), (128, .bool false), (11, .pointer (some ⟨b17, 0, none⟩)), (10, .pointer (some ⟨b16, 0, none⟩)), (80, .bool true), (76, .bool false), (5, .slice (some ⟨g8, 0, none⟩) ((reAt 0 ts2) ++ [endT (jtx (ts2 ++ [endT l]))]).length k9), (6, .pointer (some ⟨b11, 0, none⟩)), (25, .bool false), (3, .slice (some ⟨g4, 0, none⟩) (ts2 ++ [endT l]).length k5), (4, .pointer (some ⟨b7, 0, none⟩)), (17, .bool false), (14, .bool false), (2, .bool false), (0, Str l), (9, .int .i64 ((i : Nat) : Int)), (7, .int .i64 ((q2 : Nat) : Int))] ⟨rfl, rfl, rfl, rfl, rfl, rfl, rfl, rfl, rfl, rfl, rfl, rfl, rfl, rfl, rfl, rfl, rfl, rfl, rfl, rfl, trivial⟩ fun a hK => ?_
                  refine wp_cond_false (hK.get rfl) ?_
                  refine wp_skip ?_
                  refine region_go (lst := [0, 1, 2]) (by kernel_rfl) ?_
                  refine stepM hK 177 7 (by kernel_rfl) (.inl rfl) rfl fun a hK => ?_
                  refine stepP hK 178 (.int .i64 (((q2 + 1) : Nat) : Int)) (by kernel_rfl) (run_addN (i := q2) (j := 1) rfl rfl rfl (by omega)) fun a hK => ?_
                  refine stepM hK 7 178 (by kernel_rfl) (.inr rfl) rfl fun a hK => ?_
                  refine region_done hK [(7, .int .i64 (((q2 + 1) : Nat) : Int)), (176, .bool false), (8, .bool true), (12, .int .u8 ((c20.toNat : Nat) : Int)), (132, .bool true), (128, .bool false), (11, .pointer (some ⟨b17, 0, none⟩)), (10, .pointer (some ⟨b16, 0, none⟩)), (80, .bool true), (76, .bool false), (5, .slice (some ⟨g8, 0, none⟩) ((reAt 0 ts2) ++ [endT (jtx (ts2 ++ [endT l]))]).length k9), (6, .pointer (some ⟨b11, 0, none⟩)), (25, .bool false), (3, .slice (some ⟨g4, 0, none⟩) (ts2 ++ [endT l]).length k5), (4, .pointer (some ⟨b7, 0, none⟩)), (17, .bool false), (14, .bool false), (2, .bool false), (0, Str l), (9, .int .i64 ((i : Nat) : Int))] ⟨rfl, rfl, rfl, rfl, rfl, rfl, rfl, rfl, rfl, rfl, rfl, rfl, rfl, rfl, rfl, rfl, rfl, rfl, rfl, rfl, trivial⟩ fun a hK => ?_
                  have hRn : (q2 + 1) ≤ t14.2 ∧ GapSt l t14.2 true (q2 + 1) := ⟨by omega, hg.2⟩
                  have hmn : t14.2 - (q2 + 1) < t14.2 - q2 := by omega
                  exact ⟨(q2 + 1, true), hK.sub ⟨rfl, rfl, rfl, rfl, rfl, rfl, rfl, rfl, rfl, rfl, rfl, rfl, rfl, rfl, rfl, rfl, rfl, trivial⟩, hM, hRn, hmn⟩
                · refine stepP hK 156 (.bool false) (by kernel_rfl) (okBool (b := (decide ((((c35.toNat : Nat) : Int) : Int) = 47))) (by kernel_rfl) (decide_eq_false h36)) fun a hK => ?_
                  refine stepP hK 157 (.bool false) (by kernel_rfl) (by kernel_rfl) fun a hK => ?_
                  refine stepP hK 158 (.bool false) (by kernel_rfl) (by kernel_rfl) fun a hK => ?_
                  refine stepM hK 8 158 (by kernel_rfl) (.inr rfl) rfl fun a hK => ?_
                  refine region_done hK [(8, .bool false), (12, .int .u8 ((c20.toNat : Nat) : Int)), (132, .bool true), (128, .bool false), (11, .pointer (some ⟨b17, 0, none⟩)), (10, .pointer (some ⟨b16, 0, none⟩)), (80, .bool true), (76, .bool false), (5, .slice (some ⟨g8, 0, none⟩) ((reAt 0 ts2) ++ [endT (jtx (ts2 ++ [endT l]))]).length k9), (6, .pointer (some ⟨b11, 0, none⟩)), (25, .bool false), (3, .slice (some ⟨g4, 0, none⟩) (ts2 ++ [endT l]).length k5), (4, .pointer (some ⟨b7, 0, none⟩)), (17, .bool false), (14, .bool false), (2, .bool false), (0, Str l), (9, .int .i64 ((i : Nat) : Int)), (7, .int .i64 ((q2 : Nat) : Int))] ⟨rfl, rfl, rfl, rfl, rfl, rfl, rfl, rfl, rfl, rfl, rfl, rfl, rfl, rfl, rfl, rfl, rfl, rfl, rfl, trivial⟩ fun a hK => ?_
                  refine wp_seq ?_
                  refine wp_seq ?_
                  have hrm : rmN l q2 c20 rm = false := rm_no3 (.inl h21) hc35 h36
                  have hg := gap_next hR.2 (by omega) hc20
                  rw [hrm] at hg
                  refine region_go (lst := [0, 1, 2, 3, 4, 5, 6, 7, 8, 9, 10, 11, 12, 13, 14, 15, 16, 17]) (by kernel_rfl) ?_
                  refine stepM hK 159 8 (by kernel_rfl) (.inl rfl) rfl fun a hK => ?_
                  refine stepP hK 160 (.bool true) (by kernel_rfl) (by kernel_rfl) fun a hK => ?_
                  refine stepM hK 161 160 (by kernel_rfl) (.inl rfl) rfl fun a hK => ?_
                  refine stepM hK 162 12 (by kernel_rfl) (.inl rfl) rfl fun a hK => ?_
                  rcases Bool.eq_false_or_eq_true (!(decide ((((c20.toNat : Nat) : Int) : Int) = 32))) with h37 | h37
                  · refine stepP hK 163 (.bool true) (by kernel_rfl) (okBool (b := (!(decide ((((c20.toNat : Nat) : Int) : Int) = 32)))) (by kernel_rfl) h37) fun a hK => ?_
                    refine stepP hK 164 (.bool true) (by kernel_rfl) (by kernel_rfl) fun a hK => ?_
                    refine stepM hK 165 164 (by kernel_rfl) (.inl rfl) rfl fun a hK => ?_
                    refine stepM hK 166 12 (by kernel_rfl) (.inl rfl) rfl fun a hK => ?_
                    rcases Bool.eq_false_or_eq_true (!(decide ((((c20.toNat : Nat) : Int) : Int) = 9))) with h38 | h38
                    · refine stepP hK 167 (.bool true) (by kernel_rfl) (okBool (b := (!(decide ((((c20.toNat : Nat) : Int) : Int) = 9)))) (by kernel_rfl) h38) fun a hK => ?_
                      refine stepP hK 168 (.bool true) (by kernel_rfl) (by kernel_rfl) fun a hK => ?_
                      refine stepM hK 169 168 (by kernel_rfl) (.inl rfl) rfl fun a hK => ?_
                      refine stepM hK 170 12 (by kernel_rfl) (.inl rfl) rfl fun a hK => ?_
                      rcases Bool.eq_false_or_eq_true (!(decide ((((c20.toNat : Nat) : Int) : Int) = 10))) with h39 | h39
                      · refine stepP hK 171 (.bool true) (by kernel_rfl) (okBool (b := (!(decide ((((c20.toNat : Nat) : Int) : Int) = 10)))) (by kernel_rfl) h39) fun a hK => ?_
                        refine stepP hK 172 (.bool true) (by kernel_rfl) (by kernel_rfl) fun a hK => ?_
                        refine stepM hK 173 172 (by kernel_rfl) (.inl rfl) rfl fun a hK => ?_
                        refine stepM hK 174 12 (by kernel_rfl) (.inl rfl) rfl fun a hK => ?_
                        rcases Bool.eq_false_or_eq_true (!(decide ((((c20.toNat : Nat) : Int) : Int) = 13))) with h40 | h40
                        · refine stepP hK 175 (.bool true) (by kernel_rfl) (okBool (b := (!(decide ((((c20.toNat : Nat) : Int) : Int) = 13)))) (by kernel_rfl) h40) fun a hK => ?_
                          refine stepP hK 176 (.bool true) (by kernel_rfl) (by kernel_rfl) fun a hK => ?_
                          refine region_done hK [(176, .bool true), (8, .bool false), (12, .int .u8 ((c20.toNat : Nat) : Int)), (132, .bool true), (128, .bool false), (11, .pointer (some ⟨b17, 0, none⟩)), (10, .pointer (some ⟨b16, 0, none⟩)), (80, .bool true), (76, .bool false), (5, .slice (some ⟨g8, 0, none⟩) ((reAt 0 ts2) ++ [endT (jtx (ts2 ++ [endT l]))]).length k9), (6, .pointer (some ⟨b11, 0, none⟩)), (25, .bool false), (3, .slice (some ⟨g4, 0, none⟩) (ts2 ++ [endT l]).length k5), (4, .pointer (some ⟨b7, 0, none⟩)), (17, .bool false), (14, .bool false), (2, .bool false), (0, Str l), (9, .int .i64 ((i : Nat) : Int)), (7, .int .i64 ((q2 : Nat) : Int))] ⟨rfl, rfl, rfl, rfl, rfl, rfl, rfl, rfl, rfl, rfl, rfl, rfl, rfl, rfl, rfl, rfl, rfl, rfl, rfl, rfl, trivial⟩ fun a hK => ?_
                          refine wp_cond_true (hK.get rfl) ?_
                          refine wp_seq ?_
                          refine region_go (lst := [0]) (by kernel_rfl) ?_
                          refine stepP hK 2 (.bool false) (by kernel_rfl) (by kernel_rfl) fun a hK => ?_
                          refine region_done hK [(2, .bool false), (176, .bool true), (8, .bool false), (12, .int .u8 ((c20.toNat : Nat) : Int)), (132, .bool true), (128, .bool false), (11, .pointer (some ⟨b17, 0, none⟩)), (10, .pointer (some ⟨b16, 0, none⟩)), (80, .bool true), (76, .bool false), (5, .slice (some ⟨g8, 0, none⟩) ((reAt 0 ts2) ++ [endT (jtx (ts2 ++ [endT l]))]).length k9), (6, .pointer (some ⟨b11, 0, none⟩)), (25, .bool false), (3, .slice (some ⟨g4, 0, none⟩) (ts2 ++ [endT l]).length k5), (4, .pointer (some ⟨b7, 0, none⟩)), (17, .bool false), (14, .bool false), (0, Str l), (9, .int .i64 ((i : Nat) : Int)), (7, .int .i64 ((q2 : Nat) : Int))] ⟨rfl, rfl, rfl, rfl, rfl, rfl, rfl, rfl, rfl, rfl, rfl, rfl, rfl, rfl, rfl, rfl, rfl, rfl, rfl, rfl, trivial⟩ fun a hK => ?_
                          refine wp_ret ?_
                          exact ret_t hK rfl (u := (.bool false)) rfl ((not_blank h37 h38 h39 h40 hg.1).elim)
                        · refine stepP hK 175 (.bool false) (by kernel_rfl) (okBool (b := (!(decide ((((c20.toNat : Nat) : Int) : Int) = 13)))) (by kernel_rfl) h40) fun a hK => ?_
                          refine stepP hK 176 (.bool false) (by kernel_rfl) (by kernel_rfl) fun a hK => ?_
                          refine region_done hK [(176, .bool false), (8, .bool false), (12, .int .u8 ((c20.toNat : Nat) : Int)), (132, .bool true), (128, .bool false), (11, .pointer (some ⟨b17, 0, none⟩)), (10, .pointer (some ⟨b16, 0, none⟩)), (80, .bool true), (76, .bool false), (5, .slice (some ⟨g8, 0, none⟩) ((reAt 0 ts2) ++ [endT (jtx (ts2 ++ [endT l]))]).length k9), (6, .pointer (some ⟨b11, 0, none⟩)), (25, .bool false), (3, .slice (some ⟨g4, 0, none⟩) (ts2 ++ [endT l]).length k5), (4, .pointer (some ⟨b7, 0, none⟩)), (17, .bool false), (14, .bool false), (2, .bool false), (0, Str l), (9, .int .i64 ((i : Nat) : Int)), (7, .int .i64 ((q2 : Nat) : Int))] ⟨rfl, rfl, rfl, rfl, rfl, rfl, rfl, rfl, rfl, rfl, rfl, rfl, rfl, rfl, rfl, rfl, rfl, rfl, rfl, rfl, trivial⟩ fun a hK => ?_
                          refine wp_cond_false (hK.get rfl) ?_
                          refine wp_skip ?_
                          refine region_go (lst := [0, 1, 2]) (by kernel_rfl) ?_
                          refine stepM hK 177 7 (by kernel_rfl) (.inl rfl) rfl fun a hK => ?_
                          refine stepP hK 178 (.int .i64 (((q2 + 1) : Nat) : Int)) (by kernel_rfl) (run_addN (i := q2) (j := 1) rfl rfl rfl (by omega)) fun a hK => ?_
                          refine stepM hK 7 178 (by kernel_rfl) (.inr rfl) rfl fun a hK => ?_
                          refine region_done hK [(7, .int .i64 (((q2 + 1) : Nat) : Int)), (176, .bool false), (8, .bool false), (12, .int .u8 ((c20.toNat : Nat) : Int)), (132, .bool true), (128, .bool false), (11, .pointer (some ⟨b17, 0, none⟩)), (10, .pointer (some ⟨b16, 0, none⟩)), (80, .bool true), (76, .bool false), (5, .slice (some ⟨g8, 0, none⟩) ((reAt 0 ts2) ++ [endT (jtx (ts2 ++ [endT l]))]).length k9), (6, .pointer (some ⟨b11, 0, none⟩)), (25, .bool false), (3, .slice (some ⟨g4, 0, none⟩) (ts2 ++ [endT l]).length k5), (4, .pointer (some ⟨b7, 0, none⟩)), (17, .bool false), (14, .bool false), (2, .bool false), (0, Str l), (9, .int .i64 ((i : Nat) : Int))] ⟨rfl, rfl, rfl, rfl, rfl, rfl, rfl, rfl, rfl, rfl, rfl, rfl, rfl, rfl, rfl, rfl, rfl, rfl, rfl, rfl, trivial⟩ fun a hK => ?_
                          have hRn : (q2 + 1) ≤ t14.2 ∧ GapSt l t14.2 false (q2 + 1) := ⟨by omega, hg.2⟩
                          have hmn : t14.2 - (q2 + 1) < t14.2 - q2 := by omega
                          exact ⟨(q2 + 1, false), hK.sub ⟨rfl, rfl, rfl, rfl, rfl, rfl, rfl, rfl, rfl, rfl, rfl, rfl, rfl, rfl, rfl, rfl, rfl, trivial⟩, hM, hRn, hmn⟩
                      · refine stepP hK 171 (.bool false) (by kernel_rfl) (okBool (b := (!(decide ((((c20.toNat : Nat) : Int) : Int) = 10)))) (by kernel_rfl) h39) fun a hK => ?_
                        refine stepP hK 172 (.bool false) (by kernel_rfl) (by kernel_rfl) fun a hK => ?_
                        refine stepM hK 173 172 (by kernel_rfl) (.inl rfl) rfl fun a hK => ?_
                        refine stepN hK 174 (by kernel_rfl) fun a hK => ?_
                        refine stepN hK 175 (by kernel_rfl) fun a hK => ?_
                        refine stepP hK 176 (.bool false) (by kernel_rfl) (by kernel_rfl) fun a hK => ?_
                        refine region_done hK [(176, .bool false), (8, .bool false), (12, .int .u8 ((c20.toNat : Nat) : Int)), (132, .bool true), (128, .bool false), (11, .pointer (some ⟨b17, 0, none⟩)), (10, .pointer (some ⟨b16, 0, none⟩)), (80, .bool true), (76, .bool false), (5, .slice (some ⟨g8, 0, none⟩) ((reAt 0 ts2) ++ [endT (jtx (ts2 ++ [endT l]))]).length k9), (6, .pointer (some ⟨b11, 0, none⟩)), (25, .bool false), (3, .slice (some ⟨g4, 0, none⟩) (ts2 ++ [endT l]).length k5), (4, .pointer (some ⟨b7, 0, none⟩)), (17, .bool false), (14, .bool false), (2, .bool false), (0, Str l), (9, .int .i64 ((i : Nat) : Int)), (7, .int .i64 ((q2 : Nat) : Int))] ⟨rfl, rfl, rfl, rfl, rfl, rfl, rfl, rfl, rfl, rfl, rfl, rfl, rfl, rfl, rfl, rfl, rfl, rfl, rfl, rfl, trivial⟩ fun a hK => ?_
                        refine wp_cond_false (hK.get rfl) ?_
                        refine wp_skip ?_
                        refine region_go (lst := [0, 1, 2]) (by kernel_rfl) ?_
                        refine stepM hK 177 7 (by kernel_rfl) (.inl rfl) rfl fun a hK => ?_
                        refine stepP hK 178 (.int .i64 (((q2 + 1) : Nat) : Int)) (by kernel_rfl) (run_addN (i := q2) (j := 1) rfl rfl rfl (by omega)) fun a hK => ?_
                        refine stepM hK 7 178 (by kernel_rfl) (.inr rfl) rfl fun a hK => ?_
                        refine region_done hK [(7, .int .i64 (((q2 + 1) : Nat) : Int)), (176, .bool false), (8, .bool false), (12, .int .u8 ((c20.toNat : Nat) : Int)), (132, .bool true), (128, .bool false), (11, .pointer (some ⟨b17, 0, none⟩)), (10, .pointer (some ⟨b16, 0, none⟩)), (80, .bool true), (76, .bool false), (5, .slice (some ⟨g8, 0, none⟩) ((reAt 0 ts2) ++ [endT (jtx (ts2 ++ [endT l]))]).length k9), (6, .pointer (some ⟨b11, 0, none⟩)), (25, .bool false), (3, .slice (some ⟨g4, 0, none⟩) (ts2 ++ [endT l]).length k5), (4, .pointer (some ⟨b7, 0, none⟩)), (17, .bool false), (14, .bool false), (2, .bool false), (0, Str l), (9, .int .i64 ((i : Nat) : Int))] ⟨rfl, rfl, rfl, rfl, rfl, rfl, rfl, rfl, rfl, rfl, rfl, rfl, rfl, rfl, rfl, rfl, rfl, rfl, rfl, rfl, trivial⟩ fun a hK => ?_
                        have hRn : (q2 + 1) ≤ t14.2 ∧ GapSt l t14.2 false (q2 + 1) := ⟨by omega, hg.2⟩
                        have hmn : t14.2 - (q2 + 1) < t14.2 - q2 := by omega
                        exact ⟨(q2 + 1, false), hK.sub ⟨rfl, rfl, rfl, rfl, rfl, rfl, rfl, rfl, rfl, rfl, rfl, rfl, rfl, rfl, rfl, rfl, rfl, trivial⟩, hM, hRn, hmn⟩
                    · refine stepP hK 167 (.bool false) (by kernel_rfl) (okBool (b := (!(decide ((((c20.toNat : Nat) : Int) : Int) = 9)))) (by kernel_rfl) h38) fun a hK => ?_
                      refine stepP hK 168 (.bool false) (by kernel_rfl) (by kernel_rfl) fun a hK => ?_
                      refine stepM hK 169 168 (by kernel_rfl) (.inl rfl) rfl fun a hK => ?_
                      refine stepN hK 170 (by kernel_rfl) fun a hK => ?_
                      refine stepN hK 171 (by kernel_rfl) fun a hK => ?_
                      refine stepP hK 172 (.bool false) (by kernel_rfl) (by kernel_rfl) fun a hK => ?_
                      refine stepM hK 173 172 (by kernel_rfl) (.inl rfl) rfl fun a hK => ?_
                      refine stepN hK 174 (by kernel_rfl) fun a hK => ?_
                      refine stepN hK 175 (by kernel_rfl) fun a hK => ?_
                      refine stepP hK 176 (.bool false) (by kernel_rfl) (by kernel_rfl) fun a hK => ?_
                      refine region_done hK [(176, .bool false), (8, .bool false), (12, .int .u8 ((c20.toNat : Nat) : Int)), (132, .bool true), (128, .bool false), (11, .pointer (some ⟨b17, 0, none⟩)), (10, .pointer (some ⟨b16, 0, none⟩)), (80, .bool true), (76, .bool false), (5, .slice (some ⟨g8, 0, none⟩) ((reAt 0 ts2) ++ [endT (jtx (ts2 ++ [endT l]))]).length k9), (6, .pointer (some ⟨b11, 0, none⟩)), (25, .bool false), (3, .slice (some ⟨g4, 0, none⟩) (ts2 ++ [endT l]).length k5), (4, .pointer (some ⟨b7, 0, none⟩)), (17, .bool false), (14, .bool false), (2, .bool false), (0, Str l), (9, .int .i64 ((i : Nat) : Int)), (7, .int .i64 ((q2 : Nat) : Int))] ⟨rfl, rfl, rfl, rfl, rfl, rfl, rfl, rfl, rfl, rfl, rfl, rfl, rfl, rfl, rfl, rfl, rfl, rfl, rfl, rfl, trivial⟩ fun a hK => ?_
                      refine wp_cond_false (hK.get rfl) ?_
                      refine wp_skip ?_
                      refine region_go (lst := [0, 1, 2]) (by kernel_rfl) ?_
                      refine stepM hK 177 7 (by kernel_rfl) (.inl rfl) rfl fun a hK => ?_
                      refine stepP hK 178 (.int .i64 (((q2 + 1) : Nat) : Int)) (by kernel_rfl) (run_addN (i := q2) (j := 1) rfl rfl rfl (by omega)) fun a hK => ?_
                      refine stepM hK 7 178 (by kernel_rfl) (.inr rfl) rfl fun a hK => ?_
                      refine region_done hK [(7, .int .i64 (((q2 + 1) : Nat) : Int)), (176, .bool false), (8, .bool false), (12, .int .u8 ((c20.toNat : Nat) : Int)), (132, .bool true), (128, .bool false), (11, .pointer (some ⟨b17, 0, none⟩)), (10, .pointer (some ⟨b16, 0, none⟩)), (80, .bool true), (76, .bool false), (5, .slice (some ⟨g8, 0, none⟩) ((reAt 0 ts2) ++ [endT (jtx (ts2 ++ [endT l]))]).length k9), (6, .pointer (some ⟨b11, 0, none⟩)), (25, .bool false), (3, .slice (some ⟨g4, 0, none⟩) (ts2 ++ [endT l]).length k5), (4, .pointer (some ⟨b7, 0, none⟩)), (17, .bool false), (14, .bool false), (2, .bool false), (0, Str l), (9, .int .i64 ((i : Nat) : Int))] ⟨rfl, rfl, rfl, rfl, rfl, rfl, rfl, rfl, rfl, rfl, rfl, rfl, rfl, rfl, rfl, rfl, rfl, rfl, rfl, rfl, trivial⟩ fun a hK => ?_
                      have hRn : (q2 + 1) ≤ t14.2 ∧ GapSt l t14.2 false (q2 + 1) := ⟨by omega, hg.2⟩
                      have hmn : t14.2 - (q2 + 1) < t14.2 - q2 := by omega
                      exact ⟨(q2 + 1, false), hK.sub ⟨rfl, rfl, rfl, rfl, rfl, rfl, rfl, rfl, rfl, rfl, rfl, rfl, rfl, rfl, rfl, rfl, rfl, trivial⟩, hM, hRn, hmn⟩
                  · refine stepP hK 163 (.bool false) (by kernel_rfl) (okBool (b := (!(decide ((((c20.toNat : Nat) : Int) : Int) = 32)))) (by kernel_rfl) h37) fun a hK => ?_
                    refine stepP hK 164 (.bool false) (by kernel_rfl) (by kernel_rfl) fun a hK => ?_
                    refine stepM hK 165 164 (by kernel_rfl) (.inl rfl) rfl fun a hK => ?_
                    refine stepN hK 166 (by kernel_rfl) fun a hK => ?_
                    refine stepN hK 167 (by kernel_rfl) fun a hK => ?_
                    refine stepP hK 168 (.bool false) (by kernel_rfl) (by kernel_rfl) fun a hK => ?_
                    refine stepM hK 169 168 (by kernel_rfl) (.inl rfl) rfl fun a hK => ?_
                    refine stepN hK 170 (by kernel_rfl) fun a hK => ?_
                    refine stepN hK 171 (by kernel_rfl) fun a hK => ?_
                    refine stepP hK 172 (.bool false) (by kernel_rfl) (by kernel_rfl) fun a hK => ?_
                    refine stepM hK 173 172 (by kernel_rfl) (.inl rfl) rfl fun a hK => ?_
                    refine stepN hK 174 (by kernel_rfl) fun a hK => ?_
                    refine stepN hK 175 (by kernel_rfl) fun a hK => ?_
                    refine stepP hK 176 (.bool false) (by kernel_rfl) (by kernel_rfl) fun a hK => ?_
                    refine region_done hK [(176, .bool false), (8, .bool false), (12, .int .u8 ((c20.toNat : Nat) : Int)), (132, .bool true), (128, .bool false), (11, .pointer (some ⟨b17, 0, none⟩)), (10, .pointer (some ⟨b16, 0, none⟩)), (80, .bool true), (76, .bool false), (5, .slice (some ⟨g8, 0, none⟩) ((reAt 0 ts2) ++ [endT (jtx (ts2 ++ [endT l]))]).length k9), (6, .pointer (some ⟨b11, 0, none⟩)), (25, .bool false), (3, .slice (some ⟨g4, 0, none⟩) (ts2 ++ [endT l]).length k5), (4, .pointer (some ⟨b7, 0, none⟩)), (17, .bool false), (14, .bool false), (2, .bool false), (0, Str l), (9, .int .i64 ((i : Nat) : Int)), (7, .int .i64 ((q2 : Nat) : Int))] ⟨rfl, rfl, rfl, rfl, rfl, rfl, rfl, rfl, rfl, rfl, rfl, rfl, rfl, rfl, rfl, rfl, rfl, rfl, rfl, rfl, trivial⟩ fun a hK => ?_
                    refine wp_cond_false (hK.get rfl) ?_
                    refine wp_skip ?_
                    refine region_go (lst := [0, 1, 2]) (by kernel_rfl) ?_
                    refine stepM hK 177 7 (by kernel_rfl) (.inl rfl) rfl fun a hK => ?_
                    refine stepP hK 178 (.int .i64 (((q2 + 1) : Nat) : Int)) (by kernel_rfl) (run_addN (i := q2) (j := 1) rfl rfl rfl (by omega)) fun a hK => ?_
                    refine stepM hK 7 178 (by kernel_rfl) (.inr rfl) rfl fun a hK => ?_
                    refine region_done hK [(7, .int .i64 (((q2 + 1) : Nat) : Int)), (176, .bool false), (8, .bool false), (12, .int .u8 ((c20.toNat : Nat) : Int)), (132, .bool true), (128, .bool false), (11, .pointer (some ⟨b17, 0, none⟩)), (10, .pointer (some ⟨b16, 0, none⟩)), (80, .bool true), (76, .bool false), (5, .slice (some ⟨g8, 0, none⟩) ((reAt 0 ts2) ++ [endT (jtx (ts2 ++ [endT l]))]).length k9), (6, .pointer (some ⟨b11, 0, none⟩)), (25, .bool false), (3, .slice (some ⟨g4, 0, none⟩) (ts2 ++ [endT l]).length k5), (4, .pointer (some ⟨b7, 0, none⟩)), (17, .bool false), (14, .bool false), (2, .bool false), (0, Str l), (9, .int .i64 ((i : Nat) : Int))] ⟨rfl, rfl, rfl, rfl, rfl, rfl, rfl, rfl, rfl, rfl, rfl, rfl, rfl, rfl, rfl, rfl, rfl, rfl, rfl, rfl, trivial⟩ fun a hK => ?_
                    have hRn : (q2 + 1) ≤ t14.2 ∧ GapSt l t14.2 false (q2 + 1) := ⟨by omega, hg.2⟩
                    have hmn : t14.2 - (q2 + 1) < t14.2 - q2 := by omega
                    exact ⟨(q2 + 1, false), hK.sub ⟨rfl, rfl, rfl, rfl, rfl, rfl, rfl, rfl, rfl, rfl, rfl, rfl, rfl, rfl, rfl, rfl, rfl, trivial⟩, hM, hRn, hmn⟩
              · refine stepP hK 149 (.bool false) (by kernel_rfl) (okBool (b := (decide (((((q2 + 1) : Nat) : Int) : Int) < ((l.length : Nat) : Int)))) (by kernel_rfl) (decide_eq_false h34)) fun a hK => ?_
                refine stepP hK 150 (.bool false) (by kernel_rfl) (by kernel_rfl) fun a hK => ?_
                refine stepM hK 151 150 (by kernel_rfl) (.inl rfl) rfl fun a hK => ?_
                refine stepN hK 152 (by kernel_rfl) fun a hK => ?_
                refine stepN hK 153 (by kernel_rfl) fun a hK => ?_
                refine stepN hK 154 (by kernel_rfl) fun a hK => ?_
                refine stepN hK 155 (by kernel_rfl) fun a hK => ?_
                refine stepN hK 156 (by kernel_rfl) fun a hK => ?_
                refine stepP hK 157 (.bool false) (by kernel_rfl) (by kernel_rfl) fun a hK => ?_
                refine stepP hK 158 (.bool false) (by kernel_rfl) (by kernel_rfl) fun a hK => ?_
                refine stepM hK 8 158 (by kernel_rfl) (.inr rfl) rfl fun a hK => ?_
                refine region_done hK [(8, .bool false), (12, .int .u8 ((c20.toNat : Nat) : Int)), (132, .bool true), (128, .bool false), (11, .pointer (some ⟨b17, 0, none⟩)), (10, .pointer (some ⟨b16, 0, none⟩)), (80, .bool true), (76, .bool false), (5, .slice (some ⟨g8, 0, none⟩) ((reAt 0 ts2) ++ [endT (jtx (ts2 ++ [endT l]))]).length k9), (6, .pointer (some ⟨b11, 0, none⟩)), (25, .bool false), (3, .slice (some ⟨g4, 0, none⟩) (ts2 ++ [endT l]).length k5), (4, .pointer (some ⟨b7, 0, none⟩)), (17, .bool false), (14, .bool false), (2, .bool false), (0, Str l), (9, .int .i64 ((i : Nat) : Int)), (7, .int .i64 ((q2 : Nat) : Int))] ⟨rfl, rfl, rfl, rfl, rfl, rfl, rfl, rfl, rfl, rfl, rfl, rfl, rfl, rfl, rfl, rfl, rfl, rfl, rfl, trivial⟩ fun a hK => ?_
                refine wp_seq ?_
                refine wp_seq ?_
                have hrm : rmN l q2 c20 rm = false := rm_no2 (.inl h21) (by omega)
                have hg := gap_next hR.2 (by omega) hc20
                rw [hrm] at hg
                refine region_go (lst := [0, 1, 2, 3, 4, 5, 6, 7, 8, 9, 10, 11, 12, 13, 14, 15, 16, 17]) (by kernel_rfl) ?_
                refine stepM hK 159 8 (by kernel_rfl) (.inl rfl) rfl fun a hK => ?_
                refine stepP hK 160 (.bool true) (by kernel_rfl) (by kernel_rfl) fun a hK => ?_
                refine stepM hK 161 160 (by kernel_rfl) (.inl rfl) rfl fun a hK => ?_
                refine stepM hK 162 12 (by kernel_rfl) (.inl rfl) rfl fun a hK => ?_
                rcases Bool.eq_false_or_eq_true (!(decide ((((c20.toNat : Nat) : Int) : Int) = 32))) with h41 | h41
                · refine stepP hK 163 (.bool true) (by kernel_rfl) (okBool (b := (!(decide ((((c20.toNat : Nat) : Int) : Int) = 32)))) (by kernel_rfl) h41) fun a hK => ?_
                  refine stepP hK 164 (.bool true) (by kernel_rfl) (by kernel_rfl) fun a hK => ?_
                  refine stepM hK 165 164 (by kernel_rfl) (.inl rfl) rfl fun a hK => ?_
                  refine stepM hK 166 12 (by kernel_rfl) (.inl rfl) rfl fun a hK => ?_
                  rcases Bool.eq_false_or_eq_true (!(decide ((((c20.toNat : Nat) : Int) : Int) = 9))) with h42 | h42
                  · refine stepP hK 167 (.bool true) (by kernel_rfl) (okBool (b := (!(decide ((((c20.toNat : Nat) : Int) : Int) = 9)))) (by kernel_rfl) h42) fun a hK => ?_
                    refine stepP hK 168 (.bool true) (by kernel_rfl) (by kernel_rfl) fun a hK => ?_
                    refine stepM hK 169 168 (by kernel_rfl) (.inl rfl) rfl fun a hK => ?_
                    refine stepM hK 170 12 (by kernel_rfl) (.inl rfl) rfl fun a hK => ?_
                    rcases Bool.eq_false_or_eq_true (!(decide ((((c20.toNat : Nat) : Int) : Int) = 10))) with h43 | h43
                    · refine stepP hK 171 (.bool true) (by kernel_rfl) (okBool (b := (!(decide ((((c20.toNat : Nat) : Int) : Int) = 10)))) (by kernel_rfl) h43) fun a hK => ?_
                      refine stepP hK 172 (.bool true) (by kernel_rfl) (by kernel_rfl) fun a hK => ?_
                      refine stepM hK 173 172 (by kernel_rfl) (.inl rfl) rfl fun a hK => ?_
                      refine stepM hK 174 12 (by kernel_rfl) (.inl rfl) rfl fun a hK => ?_
                      rcases Bool.eq_false_or_eq_true (!(decide ((((c20.toNat : Nat) : Int) : Int) = 13))) with h44 | h44
                      · refine stepP hK 175 (.bool true) (by kernel_rfl) (okBool (b := (!(decide ((((c20.toNat : Nat) : Int) : Int) = 13)))) (by kernel_rfl) h44) fun a hK => ?_
                        refine stepP hK 176 (.bool true) (by kernel_rfl) (by kernel_rfl) fun a hK => ?_
                        refine region_done hK [(176, .bool true), (8, .bool false), (12, .int .u8 ((c20.toNat : Nat) : Int)), (132, .bool true), (128, .bool false), (11, .pointer (some ⟨b17, 0, none⟩)), (10, .pointer (some ⟨b16, 0, none⟩)), (80, .bool true), (76, .bool false), (5, .slice (some ⟨g8, 0, none⟩) ((reAt 0 ts2) ++ [endT (jtx (ts2 ++ [endT l]))]).length k9), (6, .pointer (some ⟨b11, 0, none⟩)), (25, .bool false), (3, .slice (some ⟨g4, 0, none⟩) (ts2 ++ [endT l]).length k5), (4, .pointer (some ⟨b7, 0, none⟩)), (17, .bool false), (14, .bool false), (2, .bool false), (0, Str l), (9, .int .i64 ((i : Nat) : Int)), (7, .int .i64 ((q2 : Nat) : Int))] ⟨rfl, rfl, rfl, rfl, rfl, rfl, rfl, rfl, rfl, rfl, rfl, rfl, rfl, rfl, rfl, rfl, rfl, rfl, rfl, rfl, trivial⟩ fun a hK => ?_
                        refine wp_cond_true (hK.get rfl) ?_
                        refine wp_seq ?_
                        refine region_go (lst := [0]) (by kernel_rfl) ?_
                        refine stepP hK 2 (.bool false) (by kernel_rfl) (by kernel_rfl) fun a hK => ?_
                        refine region_done hK [(2, .bool false), (176, .bool true), (8, .bool false), (12, .int .u8 ((c20.toNat : Nat) : Int)), (132, .bool true), (128, .bool false), (11, .pointer (some ⟨b17, 0, none⟩)), (10, .pointer (some ⟨b16, 0, none⟩)), (80, .bool true), (76, .bool false), (5, .slice (some ⟨g8, 0, none⟩) ((reAt 0 ts2) ++ [endT (jtx (ts2 ++ [endT l]))]).length k9), (6, .pointer (some ⟨b11, 0, none⟩)), (25, .bool false), (3, .slice (some ⟨g4, 0, none⟩) (ts2 ++ [endT l]).length k5), (4, .pointer (some ⟨b7, 0, none⟩)), (17, .bool false), (14, .bool false), (0, Str l), (9, .int .i64 ((i : Nat) : Int)), (7, .int .i64 ((q2 : Nat) : Int))] ⟨rfl, rfl, rfl, rfl, rfl, rfl, rfl, rfl, rfl, rfl, rfl, rfl, rfl, rfl, rfl, rfl, rfl, rfl, rfl, rfl, trivial⟩ fun a hK => ?_
                        refine wp_ret ?_
                        exact ret_t hK rfl (u := (.bool false)) rfl ((not_blank h41 h42 h43 h44 hg.1).elim)
                      · refine stepP hK 175 (.bool false) (by kernel_rfl) (okBool (b := (!(decide ((((c20.toNat : Nat) : Int) : Int) = 13)))) (by kernel_rfl) h44) fun a hK => ?_
                        refine stepP hK 176 (.bool false) (by kernel_rfl) (by kernel_rfl) fun a hK => ?_
                        refine region_done hK [(176, .bool false), (8, .bool false), (12, .int .u8 ((c20.toNat : Nat) : Int)), (132, .bool true), (128, .bool false), (11, .pointer (some ⟨b17, 0, none⟩)), (10, .pointer (some ⟨b16, 0, none⟩)), (80, .bool true), (76, .bool false), (5, .slice (some ⟨g8, 0, none⟩) ((reAt 0 ts2) ++ [endT (jtx (ts2 ++ [endT l]))]).length k9), (6, .pointer (some ⟨b11, 0, none⟩)), (25, .bool false), (3, .slice (some ⟨g4, 0, none⟩) (ts2 ++ [endT l]).length k5), (4, .pointer (some ⟨b7, 0, none⟩)), (17, .bool false), (14, .bool false), (2, .bool false), (0, Str l), (9, .int .i64 ((i : Nat) : Int)), (7, .int .i64 ((q2 : Nat) : Int))] ⟨rfl, rfl, rfl, rfl, rfl, rfl, rfl, rfl, rfl, rfl, rfl, rfl, rfl, rfl, rfl, rfl, rfl, rfl, rfl, rfl, trivial⟩ fun a hK => ?_
                        refine wp_cond_false (hK.get rfl) ?_
                        refine wp_skip ?_
                        refine region_go (lst := [0, 1, 2]) (by kernel_rfl) ?_
                        refine stepM hK 177 7 (by kernel_rfl) (.inl rfl) rfl fun a hK => ?_
                        refine stepP hK 178 (.int .i64 (((q2 + 1) : Nat) : Int)) (by kernel_rfl) (run_addN (i := q2) (j := 1) rfl rfl rfl (by omega)) fun a hK => ?_
                        refine stepM hK 7 178 (by kernel_rfl) (.inr rfl) rfl fun a hK => ?_
                        refine region_done hK [(7, .int .i64 (((q2 + 1) : Nat) : Int)), (176, .bool false), (8, .bool false), (12, .int .u8 ((c20.toNat : Nat) : Int)), (132, .bool true), (128, .bool false), (11, .pointer (some ⟨b17, 0, none⟩)), (10, .pointer (some ⟨b16, 0, none⟩)), (80, .bool true), (76, .bool false), (5, .slice (some ⟨g8, 0, none⟩) ((reAt 0 ts2) ++ [endT (jtx (ts2 ++ [endT l]))]).length k9), (6, .pointer (some ⟨b11, 0, none⟩)), (25, .bool false), (3, .slice (some ⟨g4, 0, none⟩) (ts2 ++ [endT l]).length k5), (4, .pointer (some ⟨b7, 0, none⟩)), (17, .bool false), (14, .bool false), (2, .bool false), (0, Str l), (9, .int .i64 ((i : Nat) : Int))] ⟨rfl, rfl, rfl, rfl, rfl, rfl, rfl, rfl, rfl, rfl, rfl, rfl, rfl, rfl, rfl, rfl, rfl, rfl, rfl, rfl, trivial⟩ fun a hK => ?_
                        have hRn : (q2 + 1) ≤ t14.2 ∧ GapSt l t14.2 false (q2 + 1) := ⟨by omega, hg.2⟩
                        have hmn : t14.2 - (q2 + 1) < t14.2 - q2 := by omega
                        exact ⟨(q2 + 1, false), hK.sub ⟨rfl, rfl, rfl, rfl, rfl, rfl, rfl, rfl, rfl, rfl, rfl, rfl, rfl, rfl, rfl, rfl, rfl, trivial⟩, hM, hRn, hmn⟩
                    · refine stepP hK 171 (.bool false) (by kernel_rfl) (okBool (b := (!(decide ((((c20.toNat : Nat) : Int) : Int) = 10)))) (by kernel_rfl) h43) fun a hK => ?_
                      refine stepP hK 172 (.bool false) (by kernel_rfl) (by kernel_rfl) fun a hK => ?_
                      refine stepM hK 173 172 (by kernel_rfl) (.inl rfl) rfl fun a hK => ?_
                      refine stepN hK 174 (by kernel_rfl) fun a hK => ?_
                      refine stepN hK 175 (by kernel_rfl) fun a hK => ?_
                      refine stepP hK 176 (.bool false) (by kernel_rfl) (by kernel_rfl) fun a hK => ?_
                      refine region_done hK [(176, .bool false), (8, .bool false), (12, .int .u8 ((c20.toNat : Nat) : Int)), (132, .bool true), (128, .bool false), (11, .pointer (some ⟨b17, 0, none⟩)), (10, .pointer (some ⟨b16, 0, none⟩)), (80, .bool true), (76, .bool false), (5, .slice (some ⟨g8, 0, none⟩) ((reAt 0 ts2) ++ [endT (jtx (ts2 ++ [endT l]))]).length k9), (6, .pointer (some ⟨b11, 0, none⟩)), (25, .bool false), (3, .slice (some ⟨g4, 0, none⟩) (ts2 ++ [endT l]).length k5), (4, .pointer (some ⟨b7, 0, none⟩)), (17, .bool false), (14, .bool false), (2, .bool false), (0, Str l), (9, .int .i64 ((i : Nat) : Int)), (7, .int .i64 ((q2 : Nat) : Int))] ⟨rfl, rfl, rfl, rfl, rfl, rfl, rfl, rfl, rfl, rfl, rfl, rfl, rfl, rfl, rfl, rfl, rfl, rfl, rfl, rfl, trivial⟩ fun a hK => ?_
                      refine wp_cond_false (hK.get rfl) ?_
                      refine wp_skip ?_
                      refine region_go (lst := [0, 1, 2]) (by kernel_rfl) ?_
                      refine stepM hK 177 7 (by kernel_rfl) (.inl rfl) rfl fun a hK => ?_
                      refine stepP hK 178 (.int .i64 (((q2 + 1) : Nat) : Int)) (by kernel_rfl) (run_addN (i := q2) (j := 1) rfl rfl rfl (by omega)) fun a hK => ?_
                      refine stepM hK 7 178 (by kernel_rfl) (.inr rfl) rfl fun a hK => ?_
                      refine region_done hK [(7, .int .i64 (((q2 + 1) : Nat) : Int)), (176, .bool false), (8, .bool false), (12, .int .u8 ((c20.toNat : Nat) : Int)), (132, .bool true), (128, .bool false), (11, .pointer (some ⟨b17, 0, none⟩)), (10, .pointer (some ⟨b16, 0, none⟩)), (80, .bool true), (76, .bool false), (5, .slice (some ⟨g8, 0, none⟩) ((reAt 0 ts2) ++ [endT (jtx (ts2 ++ [endT l]))]).length k9), (6, .pointer (some ⟨b11, 0, none⟩)), (25, .bool false), (3, .slice (some ⟨g4, 0, none⟩) (ts2 ++ [endT l]).length k5), (4, .pointer (some ⟨b7, 0, none⟩)), (17, .bool false), (14, .bool false), (2, .bool false), (0, Str l), (9, .int .i64 ((i : Nat) : Int))] ⟨rfl, rfl, rfl, rfl, rfl, rfl, rfl, rfl, rfl, rfl, rfl, rfl, rfl, rfl, rfl, rfl, rfl, rfl, rfl, rfl, trivial⟩ fun a hK => ?_
                      have hRn : (q2 + 1) ≤ t14.2 ∧ GapSt l t14.2 false (q2 + 1) := ⟨by omega, hg.2⟩
                      have hmn : t14.2 - (q2 + 1) < t14.2 - q2 := by omega
                      exact ⟨(q2 + 1, false), hK.sub ⟨rfl, rfl, rfl, rfl, rfl, rfl, rfl, rfl, rfl, rfl, rfl, rfl, rfl, rfl, rfl, rfl, rfl, trivial⟩, hM, hRn, hmn⟩
                  · refine stepP hK 167 (.bool false) (by kernel_rfl) (okBool (b := (!(decide ((((c20.toNat : Nat) : Int) : Int) = 9)))) (by kernel_rfl) h42) fun a hK => ?_
                    refine stepP hK 168 (.bool false) (by kernel_rfl) (by kernel_rfl) fun a hK => ?_
                    refine stepM hK 169 168 (by kernel_rfl) (.inl rfl) rfl fun a hK => ?_
                    refine stepN hK 170 (by kernel_rfl) fun a hK => ?_
                    refine stepN hK 171 (by kernel_rfl) fun a hK => ?_
                    refine stepP hK 172 (.bool false) (by kernel_rfl) (by kernel_rfl) fun a hK => ?_
                    refine stepM hK 173 172 (by kernel_rfl) (.inl rfl) rfl fun a hK => ?_
                    refine stepN hK 174 (by kernel_rfl) fun a hK => ?_
                    refine stepN hK 175 (by kernel_rfl) fun a hK => ?_
                    refine stepP hK 176 (.bool false) (by kernel_rfl) (by kernel_rfl) fun a hK => ?_
                    refine region_done hK [(176, .bool false), (8, .bool false), (12, .int .u8 ((c20.toNat : Nat) : Int)), (132, .bool true), (128, .bool false), (11, .pointer (some ⟨b17, 0, none⟩)), (10, .pointer (some ⟨b16, 0, none⟩)), (80, .bool true), (76, .bool false), (5, .slice (some ⟨g8, 0, none⟩) ((reAt 0 ts2) ++ [endT (jtx (ts2 ++ [endT l]))]).length k9), (6, .pointer (some ⟨b11, 0, none⟩)), (25, .bool false), (3, .slice (some ⟨g4, 0, none⟩) (ts2 ++ [endT l]).length k5), (4, .pointer (some ⟨b7, 0, none⟩)), (17, .bool false), (14, .bool false), (2, .bool false), (0, Str l), (9, .int .i64 ((i : Nat) : Int)), (7, .int .i64 ((q2 : Nat) : Int))] ⟨rfl, rfl, rfl, rfl, rfl, rfl, rfl, rfl, rfl, rfl, rfl, rfl, rfl, rfl, rfl, rfl, rfl, rfl, rfl, rfl, trivial⟩ fun a hK => ?_
                    refine wp_cond_false (hK.get rfl) ?_
                    refine wp_skip ?_
                    refine region_go (lst := [0, 1, 2]) (by kernel_rfl) ?_
                    refine stepM hK 177 7 (by kernel_rfl) (.inl rfl) rfl fun a hK => ?_
                    refine stepP hK 178 (.int .i64 (((q2 + 1) : Nat) : Int)) (by kernel_rfl) (run_addN (i := q2) (j := 1) rfl rfl rfl (by omega)) fun a hK => ?_
                    refine stepM hK 7 178 (by kernel_rfl) (.inr rfl) rfl fun a hK => ?_
                    refine region_done hK [(7, .int .i64 (((q2 + 1) : Nat) : Int)), (176, .bool false), (8, .bool false), (12, .int .u8 ((c20.toNat : Nat) : Int)), (132, .bool true), (128, .bool false), (11, .pointer (some ⟨b17, 0, none⟩)), (10, .pointer (some ⟨b16, 0, none⟩)), (80, .bool true), (76, .bool false), (5, .slice (some ⟨g8, 0, none⟩) ((reAt 0 ts2) ++ [endT (jtx (ts2 ++ [endT l]))]).length k9), (6, .pointer (some ⟨b11, 0, none⟩)), (25, .bool false), (3, .slice (some ⟨g4, 0, none⟩) (ts2 ++ [endT l]).length k5), (4, .pointer (some ⟨b7, 0, none⟩)), (17, .bool false), (14, .bool false), (2, .bool false), (0, Str l), (9, .int .i64 ((i : Nat) : Int))] ⟨rfl, rfl, rfl, rfl, rfl, rfl, rfl, rfl, rfl, rfl, rfl, rfl, rfl, rfl, rfl, rfl, rfl, rfl, rfl, rfl, trivial⟩ fun a hK => ?_
                    have hRn : (q2 + 1) ≤ t14.2 ∧ GapSt l t14.2 false (q2 + 1) := ⟨by omega, hg.2⟩
                    have hmn : t14.2 - (q2 + 1) < t14.2 - q2 := by omega
                    exact ⟨(q2 + 1, false), hK.sub ⟨rfl, rfl, rfl, rfl, rfl, rfl, rfl, rfl, rfl, rfl, rfl, rfl, rfl, rfl, rfl, rfl, rfl, trivial⟩, hM, hRn, hmn⟩
                · refine stepP hK 163 (.bool false) (by kernel_rfl) (okBool (b := (!(decide ((((c20.toNat : Nat) : Int) : Int) = 32)))) (by kernel_rfl) h41) fun a hK => ?_
                  refine stepP hK 164 (.bool false) (by kernel_rfl) (by kernel_rfl) fun a hK => ?_
                  refine stepM hK 165 164 (by kernel_rfl) (.inl rfl) rfl fun a hK => ?_
                  refine stepN hK 166 (by kernel_rfl) fun a hK => ?_
                  refine stepN hK 167 (by kernel_rfl) fun a hK => ?_
                  refine stepP hK 168 (.bool false) (by kernel_rfl) (by kernel_rfl) fun a hK => ?_
                  refine stepM hK 169 168 (by kernel_rfl) (.inl rfl) rfl fun a hK => ?_
                  refine stepN hK 170 (by kernel_rfl) fun a hK => ?_
                  refine stepN hK 171 (by kernel_rfl) fun a hK => ?_
                  refine stepP hK 172 (.bool false) (by kernel_rfl) (by kernel_rfl) fun a hK => ?_
                  refine stepM hK 173 172 (by kernel_rfl) (.inl rfl) rfl fun a hK => ?_
                  refine stepN hK 174 (by kernel_rfl) fun a hK => ?_
                  refine stepN hK 175 (by kernel_rfl) fun a hK => ?_
                  refine stepP hK 176 (.bool false) (by kernel_rfl) (by kernel_rfl) fun a hK => ?_
                  refine region_done hK [(176, .bool false), (8, .bool false), (12, .int .u8 ((c20.toNat : Nat) : Int)), (132, .bool true), (128, .bool false), (11, .pointer (some ⟨b17, 0, none⟩)), (10, .pointer (some ⟨b16, 0, none⟩)), (80, .bool true), (76, .bool false), (5, .slice (some ⟨g8, 0, none⟩) ((reAt 0 ts2) ++ [endT (jtx (ts2 ++ [endT l]))]).length k9), (6, .pointer (some ⟨b11, 0, none⟩)), (25, .bool false), (3, .slice (some ⟨g4, 0, none⟩) (ts2 ++ [endT l]).length k5), (4, .pointer (some ⟨b7, 0, none⟩)), (17, .bool false), (14, .bool false), (2, .bool false), (0, Str l), (9, .int .i64 ((i : Nat) : Int)), (7, .int .i64 ((q2 : Nat) : Int))] ⟨rfl, rfl, rfl, rfl, rfl, rfl, rfl, rfl, rfl, rfl, rfl, rfl, rfl, rfl, rfl, rfl, rfl, rfl, rfl, rfl, trivial⟩ fun a hK => ?_
                  refine wp_cond_false (hK.get rfl) ?_
                  refine wp_skip ?_
                  refine region_go (lst := [0, 1, 2]) (by kernel_rfl) ?_
                  refine stepM hK 177 7 (by kernel_rfl) (.inl rfl) rfl fun a hK => ?_
                  refine stepP hK 178 (.int .i64 (((q2 + 1) : Nat) : Int)) (by kernel_rfl) (run_addN (i := q2) (j := 1) rfl rfl rfl (by omega)) fun a hK => ?_
                  refine stepM hK 7 178 (by kernel_rfl) (.inr rfl) rfl fun a hK => ?_
                  refine region_done hK [(7, .int .i64 (((q2 + 1) : Nat) : Int)), (176, .bool false), (8, .bool false), (12, .int .u8 ((c20.toNat : Nat) : Int)), (132, .bool true), (128, .bool false), (11, .pointer (some ⟨b17, 0, none⟩)), (10, .pointer (some ⟨b16, 0, none⟩)), (80, .bool true), (76, .bool false), (5, .slice (some ⟨g8, 0, none⟩) ((reAt 0 ts2) ++ [endT (jtx (ts2 ++ [endT l]))]).length k9), (6, .pointer (some ⟨b11, 0, none⟩)), (25, .bool false), (3, .slice (some ⟨g4, 0, none⟩) (ts2 ++ [endT l]).length k5), (4, .pointer (some ⟨b7, 0, none⟩)), (17, .bool false), (14, .bool false), (2, .bool false), (0, Str l), (9, .int .i64 ((i : Nat) : Int))] ⟨rfl, rfl, rfl, rfl, rfl, rfl, rfl, rfl, rfl, rfl, rfl, rfl, rfl, rfl, rfl, rfl, rfl, rfl, rfl, rfl, trivial⟩ fun a hK => ?_
                  have hRn : (q2 + 1) ≤ t14.2 ∧ GapSt l t14.2 false (q2 + 1) := ⟨by omega, hg.2⟩
                  have hmn : t14.2 - (q2 + 1) < t14.2 - q2 := by omega
                  exact ⟨(q2 + 1, false), hK.sub ⟨rfl, rfl, rfl, rfl, rfl, rfl, rfl, rfl, rfl, rfl, rfl, rfl, rfl, rfl, rfl, rfl, rfl, trivial⟩, hM, hRn, hmn⟩
            · refine stepP hK 143 (.bool false) (by kernel_rfl) (okBool (b := (decide ((((c20.toNat : Nat) : Int) : Int) = 47))) (by kernel_rfl) (decide_eq_false h33)) fun a hK => ?_
              refine stepM hK 144 143 (by kernel_rfl) (.inl rfl) rfl fun a hK => ?_
              refine stepN hK 145 (by kernel_rfl) fun a hK => ?_
              refine stepN hK 146 (by kernel_rfl) fun a hK => ?_
              refine stepN hK 147 (by kernel_rfl) fun a hK => ?_
              refine stepN hK 148 (by kernel_rfl) fun a hK => ?_
              refine stepN hK 149 (by kernel_rfl) fun a hK => ?_
              refine stepP hK 150 (.bool false) (by kernel_rfl) (by kernel_rfl) fun a hK => ?_
              refine stepM hK 151 150 (by kernel_rfl) (.inl rfl) rfl fun a hK => ?_
              refine stepN hK 152 (by kernel_rfl) fun a hK => ?_
              refine stepN hK 153 (by kernel_rfl) fun a hK => ?_
              refine stepN hK 154 (by kernel_rfl) fun a hK => ?_
              refine stepN hK 155 (by kernel_rfl) fun a hK => ?_
              refine stepN hK 156 (by kernel_rfl) fun a hK => ?_
              refine stepP hK 157 (.bool false) (by kernel_rfl) (by kernel_rfl) fun a hK => ?_
              refine stepP hK 158 (.bool false) (by kernel_rfl) (by kernel_rfl) fun a hK => ?_
              refine stepM hK 8 158 (by kernel_rfl) (.inr rfl) rfl fun a hK => ?_
              refine region_done hK [(8, .bool false), (12, .int .u8 ((c20.toNat : Nat) : Int)), (132, .bool true), (128, .bool false), (11, .pointer (some ⟨b17, 0, none⟩)), (10, .pointer (some ⟨b16, 0, none⟩)), (80, .bool true), (76, .bool false), (5, .slice (some ⟨g8, 0, none⟩) ((reAt 0 ts2) ++ [endT (jtx (ts2 ++ [endT l]))]).length k9), (6, .pointer (some ⟨b11, 0, none⟩)), (25, .bool false), (3, .slice (some ⟨g4, 0, none⟩) (ts2 ++ [endT l]).length k5), (4, .pointer (some ⟨b7, 0, none⟩)), (17, .bool false), (14, .bool false), (2, .bool false), (0, Str l), (9, .int .i64 ((i : Nat) : Int)), (7, .int .i64 ((q2 : Nat) : Int))] ⟨rfl, rfl, rfl, rfl, rfl, rfl, rfl, rfl, rfl, rfl, rfl, rfl, rfl, rfl, rfl, rfl, rfl, rfl, rfl, trivial⟩ fun a hK => ?_
              refine wp_seq ?_
              refine wp_seq ?_
              have hrm : rmN l q2 c20 rm = false := rm_no1 (.inl h21) h33
              have hg := gap_next hR.2 (by omega) hc20
              rw [hrm] at hg
              refine region_go (lst := [0, 1, 2, 3, 4, 5, 6, 7, 8, 9, 10, 11, 12, 13, 14, 15, 16, 17]) (by kernel_rfl) ?_
              refine stepM hK 159 8 (by kernel_rfl) (.inl rfl) rfl fun a hK => ?_
              refine stepP hK 160 (.bool true) (by kernel_rfl) (by kernel_rfl) fun a hK => ?_
              refine stepM hK 161 160 (by kernel_rfl) (.inl rfl) rfl fun a hK => ?_
              refine stepM hK 162 12 (by kernel_rfl) (.inl rfl) rfl fun a hK => ?_
              rcases Bool.eq_false_or_eq_true (!(decide ((((c20.toNat : Nat) : Int) : Int) = 32))) with h45 | h45
              · refine stepP hK 163 (.bool true) (by kernel_rfl) (okBool (b := (!(decide ((((c20.toNat : Nat) : Int) : Int) = 32)))) (by kernel_rfl) h45) fun a hK => ?_
                refine stepP hK 164 (.bool true) (by kernel_rfl) (by kernel_rfl) fun a hK => ?_
                refine stepM hK 165 164 (by kernel_rfl) (.inl rfl) rfl fun a hK => ?_
                refine stepM hK 166 12 (by kernel_rfl) (.inl rfl) rfl fun a hK => ?_
                rcases Bool.eq_false_or_eq_true (!(decide ((((c20.toNat : Nat) : Int) : Int) = 9))) with h46 | h46
                · refine stepP hK 167 (.bool true) (by kernel_rfl) (okBool (b := (!(decide ((((c20.toNat : Nat) : Int) : Int) = 9)))) (by kernel_rfl) h46) fun a hK => ?_
                  refine stepP hK 168 (.bool true) (by kernel_rfl) (by kernel_rfl) fun a hK => ?_
                  refine stepM hK 169 168 (by kernel_rfl) (.inl rfl) rfl fun a hK => ?_
                  refine stepM hK 170 12 (by kernel_rfl) (.inl rfl) rfl fun a hK => ?_
                  rcases Bool.eq_false_or_eq_true (!(decide ((((c20.toNat : Nat) : Int) : Int) = 10))) with h47 | h47
                  · refine stepP hK 171 (.bool true) (by kernel_rfl) (okBool (b := (!(decide ((((c20.toNat : Nat) : Int) : Int) = 10)))) (by kernel_rfl) h47) fun a hK => ?_
                    refine stepP hK 172 (.bool true) (by kernel_rfl) (by kernel_rfl) fun a hK => ?_
                    refine stepM hK 173 172 (by kernel_rfl) (.inl rfl) rfl fun a hK => ?_
                    refine stepM hK 174 12 (by kernel_rfl) (.inl rfl) rfl fun a hK => ?_
                    rcases Bool.eq_false_or_eq_true (!(decide ((((c20.toNat : Nat) : Int) : Int) = 13))) with h48 | h48
                    · refine stepP hK 175 (.bool true) (by kernel_rfl) (okBool (b := (!(decide ((((c20.toNat : Nat) : Int) : Int) = 13)))) (by kernel_rfl) h48) fun a hK => ?_
                      refine stepP hK 176 (.bool true) (by kernel_rfl) (by kernel_rfl) fun a hK => ?_
                      refine region_done hK [(176, .bool true), (8, .bool false), (12, .int .u8 ((c20.toNat : Nat) : Int)), (132, .bool true), (128, .bool false), (11, .pointer (some ⟨b17, 0, none⟩)), (10, .pointer (some ⟨b16, 0, none⟩)), (80, .bool true), (76, .bool false), (5, .slice (some ⟨g8, 0, none⟩) ((reAt 0 ts2) ++ [endT (jtx (ts2 ++ [endT l]))]).length k9), (6, .pointer (some ⟨b11, 0, none⟩)), (25, .bool false), (3, .slice (some ⟨g4, 0, none⟩) (ts2 ++ [endT l]).length k5), (4, .pointer (some ⟨b7, 0, none⟩)), (17, .bool false), (14, .bool false), (2, .bool false), (0, Str l), (9, .int .i64 ((i : Nat) : Int)), (7, .int .i64 ((q2 : Nat) : Int))] ⟨rfl, rfl, rfl, rfl, rfl, rfl, rfl, rfl, rfl, rfl, rfl, rfl, rfl, rfl, rfl, rfl, rfl, rfl, rfl, rfl, trivial⟩ fun a hK => ?_
                      refine wp_cond_true (hK.get rfl) ?_
                      refine wp_seq ?_
                      refine region_go (lst := [0]) (by kernel_rfl) ?_
                      refine stepP hK 2 (.bool false) (by kernel_rfl) (by kernel_rfl) fun a hK => ?_
                      refine region_done hK [(2, .bool false), (176, .bool true), (8, .bool false), (12, .int .u8 ((c20.toNat : Nat) : Int)), (132, .bool true), (128, .bool false), (11, .pointer (some ⟨b17, 0, none⟩)), (10, .pointer (some ⟨b16, 0, none⟩)), (80, .bool true), (76, .bool false), (5, .slice (some ⟨g8, 0, none⟩) ((reAt 0 ts2) ++ [endT (jtx (ts2 ++ [endT l]))]).length k9), (6, .pointer (some ⟨b11, 0, none⟩)), (25, .bool false), (3, .slice (some ⟨g4, 0, none⟩) (ts2 ++ [endT l]).length k5), (4, .pointer (some ⟨b7, 0, none⟩)), (17, .bool false), (14, .bool false), (0, Str l), (9, .int .i64 ((i : Nat) : Int)), (7, .int .i64 ((q2 : Nat) : Int))] ⟨rfl, rfl, rfl, rfl, rfl, rfl, rfl, rfl, rfl, rfl, rfl, rfl, rfl, rfl, rfl, rfl, rfl, rfl, rfl, rfl, trivial⟩ fun a hK => ?_
                      refine wp_ret ?_
                      exact ret_t hK rfl (u := (.bool false)) rfl ((not_blank h45 h46 h47 h48 hg.1).elim)
                    · refine stepP hK 175 (.bool false) (by kernel_rfl) (okBool (b := (!(decide ((((c20.toNat : Nat) : Int) : Int) = 13)))) (by kernel_rfl) h48) fun a hK => ?_
                      refine stepP hK 176 (.bool false) (by kernel_rfl) (by kernel_rfl) fun a hK => ?_
                      refine region_done hK [(176, .bool false), (8, .bool false), (12, .int .u8 ((c20.toNat : Nat) : Int)), (132, .bool true), (128, .bool false), (11, .pointer (some ⟨b17, 0, none⟩)), (10, .pointer (some ⟨b16, 0, none⟩)), (80, .bool true), (76, .bool false), (5, .slice (some ⟨g8, 0, none⟩) ((reAt 0 ts2) ++ [endT (jtx (ts2 ++ [endT l]))]).length k9), (6, .pointer (some ⟨b11, 0, none⟩)), (25, .bool false), (3, .slice (some ⟨g4, 0, none⟩) (ts2 ++ [endT l]).length k5), (4, .pointer (some ⟨b7, 0, none⟩)), (17, .bool false), (14, .bool false), (2, .bool false), (0, Str l), (9, .int .i64 ((i : Nat) : Int)), (7, .int .i64 ((q2 : Nat) : Int))] ⟨rfl, rfl, rfl, rfl, rfl, rfl, rfl, rfl, rfl, rfl, rfl, rfl, rfl, rfl, rfl, rfl, rfl, rfl, rfl, rfl, trivial⟩ fun a hK => ?_
                      refine wp_cond_false (hK.get rfl) ?_
                      refine wp_skip ?_
                      refine region_go (lst := [0, 1, 2]) (by kernel_rfl) ?_
                      refine stepM hK 177 7 (by kernel_rfl) (.inl rfl) rfl fun a hK => ?_
                      refine stepP hK 178 (.int .i64 (((q2 + 1) : Nat) : Int)) (by kernel_rfl) (run_addN (i := q2) (j := 1) rfl rfl rfl (by omega)) fun a hK => ?_
                      refine stepM hK 7 178 (by kernel_rfl) (.inr rfl) rfl fun a hK => ?_
                      refine region_done hK [(7, .int .i64 (((q2 + 1) : Nat) : Int)), (176, .bool false), (8, .bool false), (12, .int .u8 ((c20.toNat : Nat) : Int)), (132, .bool true), (128, .bool false), (11, .pointer (some ⟨b17, 0, none⟩)), (10, .pointer (some ⟨b16, 0, none⟩)), (80, .bool true), (76, .bool false), (5, .slice (some ⟨g8, 0, none⟩) ((reAt 0 ts2) ++ [endT (jtx (ts2 ++ [endT l]))]).length k9), (6, .pointer (some ⟨b11, 0, none⟩)), (25, .bool false), (3, .slice (some ⟨g4, 0, none⟩) (ts2 ++ [endT l]).length k5), (4, .pointer (some ⟨b7, 0, none⟩)), (17, .bool false), (14, .bool false), (2, .bool false), (0, Str l), (9, .int .i64 ((i : Nat) : Int))] ⟨rfl, rfl, rfl, rfl, rfl, rfl, rfl, rfl, rfl, rfl, rfl, rfl, rfl, rfl, rfl, rfl, rfl, rfl, rfl, rfl, trivial⟩ fun a hK => ?_
                      have hRn : (q2 + 1) ≤ t14.2 ∧ GapSt l t14.2 false (q2 + 1) := ⟨by omega, hg.2⟩
                      have hmn : t14.2 - (q2 + 1) < t14.2 - q2 := by omega
                      exact ⟨(q2 + 1, false), hK.sub ⟨rfl, rfl, rfl, rfl, rfl, rfl, rfl, rfl, rfl, rfl, rfl, rfl, rfl, rfl, rfl, rfl, rfl, trivial⟩, hM, hRn, hmn⟩
                  · refine stepP hK 171 (.bool false) (by kernel_rfl) (okBool (b := (!(decide ((((c20.toNat : Nat) : Int) : Int) = 10)))) (by kernel_rfl) h47) fun a hK => ?_
                    refine stepP hK 172 (.bool false) (by kernel_rfl) (by kernel_rfl) fun a hK => ?_
                    refine stepM hK 173 172 (by kernel_rfl) (.inl rfl) rfl fun a hK => ?_
                    refine stepN hK 174 (by kernel_rfl) fun a hK => ?_
                    refine stepN hK 175 (by kernel_rfl) fun a hK => ?_
                    refine stepP hK 176 (.bool false) (by kernel_rfl) (by kernel_rfl) fun a hK => ?_
                    refine region_done hK [(176, .bool false), (8, .bool false), (12, .int .u8 ((c20.toNat : Nat) : Int)), (132, .bool true), (128, .bool false), (11, .pointer (some ⟨b17, 0, none⟩)), (10, .pointer (some ⟨b16, 0, none⟩)), (80, .bool true), (76, .bool false), (5, .slice (some ⟨g8, 0, none⟩) ((reAt 0 ts2) ++ [endT (jtx (ts2 ++ [endT l]))]).length k9), (6, .pointer (some ⟨b11, 0, none⟩)), (25, .bool false), (3, .slice (some ⟨g4, 0, none⟩) (ts2 ++ [endT l]).length k5), (4, .pointer (some ⟨b7, 0, none⟩)), (17, .bool false), (14, .bool false), (2, .bool false), (0, Str l), (9, .int .i64 ((i : Nat) : Int)), (7, .int .i64 ((q2 : Nat) : Int))] ⟨rfl, rfl, rfl, rfl, rfl, rfl, rfl, rfl, rfl, rfl, rfl, rfl, rfl, rfl, rfl, rfl, rfl, rfl, rfl, rfl, trivial⟩ fun a hK => ?_
                    refine wp_cond_false (hK.get rfl) ?_
                    refine wp_skip ?_
                    refine region_go (lst := [0, 1, 2]) (by kernel_rfl) ?_
                    refine stepM hK 177 7 (by kernel_rfl) (.inl rfl) rfl fun a hK => ?_
                    refine stepP hK 178 (.int .i64 (((q2 + 1) : Nat) : Int)) (by kernel_rfl) (run_addN (i := q2) (j := 1) rfl rfl rfl (by omega)) fun a hK => ?_
                    refine stepM hK 7 178 (by kernel_rfl) (.inr rfl) rfl fun a hK => ?_
                    refine region_done hK [(7, .int .i64 (((q2 + 1) : Nat) : Int)), (176, .bool false), (8, .bool false), (12, .int .u8 ((c20.toNat : Nat) : Int)), (132, .bool true), (128, .bool false), (11, .pointer (some ⟨b17, 0, none⟩)), (10, .pointer (some ⟨b16, 0, none⟩)), (80, .bool true), (76, .bool false), (5, .slice (some ⟨g8, 0, none⟩) ((reAt 0 ts2) ++ [endT (jtx (ts2 ++ [endT l]))]).length k9), (6, .pointer (some ⟨b11, 0, none⟩)), (25, .bool false), (3, .slice (some ⟨g4, 0, none⟩) (ts2 ++ [endT l]).length k5), (4, .pointer (some ⟨b7, 0, none⟩)), (17, .bool false), (14, .bool false), (2, .bool false), (0, Str l), (9, .int .i64 ((i : Nat) : Int))] ⟨rfl, rfl, rfl, rfl, rfl, rfl, rfl, rfl, rfl, rfl, rfl, rfl, rfl, rfl, rfl, rfl, rfl, rfl, rfl, rfl, trivial⟩ fun a hK => ?_
                    have hRn : (q2 + 1) ≤ t14.2 ∧ GapSt l t14.2 false (q2 + 1) := ⟨by omega, hg.2⟩
                    have hmn : t14.2 - (q2 + 1) < t14.2 - q2 := by omega
                    exact ⟨(q2 + 1, false), hK.sub ⟨rfl, rfl, rfl, rfl, rfl, rfl, rfl, rfl, rfl, rfl, rfl, rfl, rfl, rfl, rfl, rfl, rfl, trivial⟩, hM, hRn, hmn⟩
                · refine stepP hK 167 (.bool false) (by kernel_rfl) (okBool (b := (!(decide ((((c20.toNat : Nat) : Int) : Int) = 9)))) (by kernel_rfl) h46) fun a hK => ?_
                  refine stepP hK 168 (.bool false) (by kernel_rfl) (by kernel_rfl) fun a hK => ?_
                  refine stepM hK 169 168 (by kernel_rfl) (.inl rfl) rfl fun a hK => ?_
                  refine stepN hK 170 (by kernel_rfl) fun a hK => ?_
                  refine stepN hK 171 (by kernel_rfl) fun a hK => ?_
                  refine stepP hK 172 (.bool false) (by kernel_rfl) (by kernel_rfl) fun a hK => ?_
                  refine stepM hK 173 172 (by kernel_rfl) (.inl rfl) rfl fun a hK => ?_
                  refine stepN hK 174 (by kernel_rfl) fun a hK => ?_
                  refine stepN hK 175 (by kernel_rfl) fun a hK => ?_
                  refine stepP hK 176 (.bool false) (by kernel_rfl) (by kernel_rfl) fun a hK => ?_
                  refine region_done hK [(176, .bool false), (8, .bool false), (12, .int .u8 ((c20.toNat : Nat) : Int)), (132, .bool true), (128, .bool false), (11, .pointer (some ⟨b17, 0, none⟩)), (10, .pointer (some ⟨b16, 0, none⟩)), (80, .bool true), (76, .bool false), (5, .slice (some ⟨g8, 0, none⟩) ((reAt 0 ts2) ++ [endT (jtx (ts2 ++ [endT l]))]).length k9), (6, .pointer (some ⟨b11, 0, none⟩)), (25, .bool false), (3, .slice (some ⟨g4, 0, none⟩) (ts2 ++ [endT l]).length k5), (4, .pointer (some ⟨b7, 0, none⟩)), (17, .bool false), (14, .bool false), (2, .bool false), (0, Str l), (9, .int .i64 ((i : Nat) : Int)), (7, .int .i64 ((q2 : Nat) : Int))] ⟨rfl, rfl, rfl, rfl, rfl, rfl, rfl, rfl, rfl, rfl, rfl, rfl, rfl, rfl, rfl, rfl, rfl, rfl, rfl, rfl, trivial⟩ fun a hK => ?_
                  refine wp_cond_false (hK.get rfl) ?_
                  refine wp_skip ?_
                  refine region_go (lst := [0, 1, 2]) (by kernel_rfl) ?_
                  refine stepM hK 177 7 (by kernel_rfl) (.inl rfl) rfl fun a hK => ?_
                  refine stepP hK 178 (.int .i64 (((q2 + 1) : Nat) : Int)) (by kernel_rfl) (run_addN (i := q2) (j := 1) rfl rfl rfl (by omega)) fun a hK => ?_
                  refine stepM hK 7 178 (by kernel_rfl) (.inr rfl) rfl fun a hK => ?_
                  refine region_done hK [(7, .int .i64 (((q2 + 1) : Nat) : Int)), (176, .bool false), (8, .bool false), (12, .int .u8 ((c20.toNat : Nat) : Int)), (132, .bool true), (128, .bool false), (11, .pointer (some ⟨b17, 0, none⟩)), (10, .pointer (some ⟨b16, 0, none⟩)), (80, .bool true), (76, .bool false), (5, .slice (some ⟨g8, 0, none⟩) ((reAt 0 ts2) ++ [endT (jtx (ts2 ++ [endT l]))]).length k9), (6, .pointer (some ⟨b11, 0, none⟩)), (25, .bool false), (3, .slice (some ⟨g4, 0, none⟩) (ts2 ++ [endT l]).length k5), (4, .pointer (some ⟨b7, 0, none⟩)), (17, .bool false), (14, .bool false), (2, .bool false), (0, Str l), (9, .int .i64 ((i : Nat) : Int))] ⟨rfl, rfl, rfl, rfl, rfl, rfl, rfl, rfl, rfl, rfl, rfl, rfl, rfl, rfl, rfl, rfl, rfl, rfl, rfl, rfl, trivial⟩ fun a hK => ?_
                  have hRn : (q2 + 1) ≤ t14.2 ∧ GapSt l t14.2 false (q2 + 1) := ⟨by omega, hg.2⟩
                  have hmn : t14.2 - (q2 + 1) < t14.2 - q2 := by omega
                  exact ⟨(q2 + 1, false), hK.sub ⟨rfl, rfl, rfl, rfl, rfl, rfl, rfl, rfl, rfl, rfl, rfl, rfl, rfl, rfl, rfl, rfl, rfl, trivial⟩, hM, hRn, hmn⟩
              · refine stepP hK 163 (.bool false) (by kernel_rfl) (okBool (b := (!(decide ((((c20.toNat : Nat) : Int) : Int) = 32)))) (by kernel_rfl) h45) fun a hK => ?_
                refine stepP hK 164 (.bool false) (by kernel_rfl) (by kernel_rfl) fun a hK => ?_
                refine stepM hK 165 164 (by kernel_rfl) (.inl rfl) rfl fun a hK => ?_
                refine stepN hK 166 (by kernel_rfl) fun a hK => ?_
                refine stepN hK 167 (by kernel_rfl) fun a hK => ?_
                refine stepP hK 168 (.bool false) (by kernel_rfl) (by kernel_rfl) fun a hK => ?_
                refine stepM hK 169 168 (by kernel_rfl) (.inl rfl) rfl fun a hK => ?_
                refine stepN hK 170 (by kernel_rfl) fun a hK => ?_
                refine stepN hK 171 (by kernel_rfl) fun a hK => ?_
                refine stepP hK 172 (.bool false) (by kernel_rfl) (by kernel_rfl) fun a hK => ?_
                refine stepM hK 173 172 (by kernel_rfl) (.inl rfl) rfl fun a hK => ?_
                refine stepN hK 174 (by kernel_rfl) fun a hK => ?_
                refine stepN hK 175 (by kernel_rfl) fun a hK => ?_
                refine stepP hK 176 (.bool false) (by kernel_rfl) (by kernel_rfl) fun a hK => ?_
                refine region_done hK [(176, .bool false), (8, .bool false), (12, .int .u8 ((c20.toNat : Nat) : Int)), (132, .bool true), (128, .bool false), (11, .pointer (some ⟨b17, 0, none⟩)), (10, .pointer (some ⟨b16, 0, none⟩)), (80, .bool true), (76, .bool false), (5, .slice (some ⟨g8, 0, none⟩) ((reAt 0 ts2) ++ [endT (jtx (ts2 ++ [endT l]))]).length k9), (6, .pointer (some ⟨b11, 0, none⟩)), (25, .bool false), (3, .slice (some ⟨g4, 0, none⟩) (ts2 ++ [endT l]).length k5), (4, .pointer (some ⟨b7, 0, none⟩)), (17, .bool false), (14, .bool false), (2, .bool false), (0, Str l), (9, .int .i64 ((i : Nat) : Int)), (7, .int .i64 ((q2 : Nat) : Int))] ⟨rfl, rfl, rfl, rfl, rfl, rfl, rfl, rfl, rfl, rfl, rfl, rfl, rfl, rfl, rfl, rfl, rfl, rfl, rfl, rfl, trivial⟩ fun a hK => ?_
                refine wp_cond_false (hK.get rfl) ?_
                refine wp_skip ?_
                refine region_go (lst := [0, 1, 2]) (by kernel_rfl) ?_
                refine stepM hK 177 7 (by kernel_rfl) (.inl rfl) rfl fun a hK => ?_
                refine stepP hK 178 (.int .i64 (((q2 + 1) : Nat) : Int)) (by kernel_rfl) (run_addN (i := q2) (j := 1) rfl rfl rfl (by omega)) fun a hK => ?_
                refine stepM hK 7 178 (by kernel_rfl) (.inr rfl) rfl fun a hK => ?_
                refine region_done hK [(7, .int .i64 (((q2 + 1) : Nat) : Int)), (176, .bool false), (8, .bool false), (12, .int .u8 ((c20.toNat : Nat) : Int)), (132, .bool true), (128, .bool false), (11, .pointer (some ⟨b17, 0, none⟩)), (10, .pointer (some ⟨b16, 0, none⟩)), (80, .bool true), (76, .bool false), (5, .slice (some ⟨g8, 0, none⟩) ((reAt 0 ts2) ++ [endT (jtx (ts2 ++ [endT l]))]).length k9), (6, .pointer (some ⟨b11, 0, none⟩)), (25, .bool false), (3, .slice (some ⟨g4, 0, none⟩) (ts2 ++ [endT l]).length k5), (4, .pointer (some ⟨b7, 0, none⟩)), (17, .bool false), (14, .bool false), (2, .bool false), (0, Str l), (9, .int .i64 ((i : Nat) : Int))] ⟨rfl, rfl, rfl, rfl, rfl, rfl, rfl, rfl, rfl, rfl, rfl, rfl, rfl, rfl, rfl, rfl, rfl, rfl, rfl, rfl, trivial⟩ fun a hK => ?_
                have hRn : (q2 + 1) ≤ t14.2 ∧ GapSt l t14.2 false (q2 + 1) := ⟨by omega, hg.2⟩
                have hmn : t14.2 - (q2 + 1) < t14.2 - q2 := by omega
                exact ⟨(q2 + 1, false), hK.sub ⟨rfl, rfl, rfl, rfl, rfl, rfl, rfl, rfl, rfl, rfl, rfl, rfl, rfl, rfl, rfl, rfl, rfl, trivial⟩, hM, hRn, hmn⟩
        · refine stepP hK 132 (.bool false) (by kernel_rfl) (okBool (b := (decide ((((q2 : Nat) : Int) : Int) < ((t14.2 : Nat) : Int)))) (by kernel_rfl) (decide_eq_false h19)) fun a hK => ?_
          refine region_done hK [(132, .bool false), (128, .bool false), (11, .pointer (some ⟨b17, 0, none⟩)), (10, .pointer (some ⟨b16, 0, none⟩)), (80, .bool true), (76, .bool false), (5, .slice (some ⟨g8, 0, none⟩) ((reAt 0 ts2) ++ [endT (jtx (ts2 ++ [endT l]))]).length k9), (6, .pointer (some ⟨b11, 0, none⟩)), (25, .bool false), (3, .slice (some ⟨g4, 0, none⟩) (ts2 ++ [endT l]).length k5), (4, .pointer (some ⟨b7, 0, none⟩)), (17, .bool false), (14, .bool false), (2, .bool false), (0, Str l), (9, .int .i64 ((i : Nat) : Int)), (7, .int .i64 ((q2 : Nat) : Int)), (8, .bool rm)] ⟨rfl, rfl, rfl, rfl, rfl, rfl, rfl, rfl, rfl, rfl, rfl, rfl, rfl, rfl, rfl, rfl, rfl, rfl, trivial⟩ fun a hK => ?_
          refine wp_cond_false (hK.get rfl) ?_
          refine wp_exit (exit_then (exit_then (exit_here 2 ?_)))
          refine wp_seq ?_
          refine region_go (lst := [0, 1, 2, 3, 4, 5, 6]) (by kernel_rfl) ?_
          refine stepP hK 179 (.pointer (some ⟨b16, 3, none⟩)) (by kernel_rfl) (by kernel_rfl) fun a hK => ?_
          refine stepLoad hK 180 (.int .i64 ((t14.2 : Nat) : Int)) (by kernel_rfl) rfl rfl ((hM.row 0 rfl).cells 3 1) (by kernel_rfl) fun a hK => ?_
          refine stepP hK 181 (.pointer (some ⟨b16, 1, none⟩)) (by kernel_rfl) (by kernel_rfl) fun a hK => ?_
          refine stepLoad hK 182 (Str t14.1.2.1) (by kernel_rfl) rfl rfl ((hM.row 0 rfl).cells 1 1) (by kernel_rfl) fun a hK => ?_
          refine stepP hK 183 (.int .i64 ((t14.1.2.1.length : Nat) : Int)) (by kernel_rfl) (by kernel_rfl) fun a hK => ?_
          refine stepP hK 184 (.int .i64 (((t14.2 + t14.1.2.1.length) : Nat) : Int)) (by kernel_rfl) (run_addN (i := t14.2) (j := t14.1.2.1.length) rfl rfl rfl (by omega)) fun a hK => ?_
          refine stepM hK 7 184 (by kernel_rfl) (.inr rfl) rfl fun a hK => ?_
          refine region_done hK [(7, .int .i64 (((t14.2 + t14.1.2.1.length) : Nat) : Int)), (132, .bool false), (128, .bool false), (11, .pointer (some ⟨b17, 0, none⟩)), (10, .pointer (some ⟨b16, 0, none⟩)), (80, .bool true), (76, .bool false), (5, .slice (some ⟨g8, 0, none⟩) ((reAt 0 ts2) ++ [endT (jtx (ts2 ++ [endT l]))]).length k9), (6, .pointer (some ⟨b11, 0, none⟩)), (25, .bool false), (3, .slice (some ⟨g4, 0, none⟩) (ts2 ++ [endT l]).length k5), (4, .pointer (some ⟨b7, 0, none⟩)), (17, .bool false), (14, .bool false), (2, .bool false), (0, Str l), (9, .int .i64 ((i : Nat) : Int)), (8, .bool rm)] ⟨rfl, rfl, rfl, rfl, rfl, rfl, rfl, rfl, rfl, rfl, rfl, rfl, rfl, rfl, rfl, rfl, rfl, rfl, trivial⟩ fun a hK => ?_
          refine region_go (lst := [0]) (by kernel_rfl) ?_
          refine stepP hK 8 (.bool false) (by kernel_rfl) (by kernel_rfl) fun a hK => ?_
          refine region_done hK [(8, .bool false), (7, .int .i64 (((t14.2 + t14.1.2.1.length) : Nat) : Int)), (132, .bool false), (128, .bool false), (11, .pointer (some ⟨b17, 0, none⟩)), (10, .pointer (some ⟨b16, 0, none⟩)), (80, .bool true), (76, .bool false), (5, .slice (some ⟨g8, 0, none⟩) ((reAt 0 ts2) ++ [endT (jtx (ts2 ++ [endT l]))]).length k9), (6, .pointer (some ⟨b11, 0, none⟩)), (25, .bool false), (3, .slice (some ⟨g4, 0, none⟩) (ts2 ++ [endT l]).length k5), (4, .pointer (some ⟨b7, 0, none⟩)), (17, .bool false), (14, .bool false), (2, .bool false), (0, Str l), (9, .int .i64 ((i : Nat) : Int))] ⟨rfl, rfl, rfl, rfl, rfl, rfl, rfl, rfl, rfl, rfl, rfl, rfl, rfl, rfl, rfl, rfl, rfl, rfl, trivial⟩ fun a hK => ?_
          refine region_go (lst := [0, 1, 2]) (by kernel_rfl) ?_
          refine stepM hK 81 9 (by kernel_rfl) (.inl rfl) rfl fun a hK => ?_
          refine stepP hK 82 (.int .i64 (((i + 1) : Nat) : Int)) (by kernel_rfl) (run_addN (i := i) (j := 1) rfl rfl rfl (by omega)) fun a hK => ?_
          refine stepM hK 9 82 (by kernel_rfl) (.inr rfl) rfl fun a hK => ?_
          refine region_done hK [(9, .int .i64 (((i + 1) : Nat) : Int)), (8, .bool false), (7, .int .i64 (((t14.2 + t14.1.2.1.length) : Nat) : Int)), (132, .bool false), (128, .bool false), (11, .pointer (some ⟨b17, 0, none⟩)), (10, .pointer (some ⟨b16, 0, none⟩)), (80, .bool true), (76, .bool false), (5, .slice (some ⟨g8, 0, none⟩) ((reAt 0 ts2) ++ [endT (jtx (ts2 ++ [endT l]))]).length k9), (6, .pointer (some ⟨b11, 0, none⟩)), (25, .bool false), (3, .slice (some ⟨g4, 0, none⟩) (ts2 ++ [endT l]).length k5), (4, .pointer (some ⟨b7, 0, none⟩)), (17, .bool false), (14, .bool false), (2, .bool false), (0, Str l)] ⟨rfl, rfl, rfl, rfl, rfl, rfl, rfl, rfl, rfl, rfl, rfl, rfl, rfl, rfl, rfl, rfl, rfl, rfl, trivial⟩ fun a hK => ?_
          have hRn : (i + 1) ≤ ts2.length + 1 ∧ ((t14.2 + t14.1.2.1.length)) ≤ l.length ∧ ((i + 1) ≤ ts2.length → lexL ((t14.2 + t14.1.2.1.length)) (l.drop ((t14.2 + t14.1.2.1.length))) = .inr (ts2.drop (i + 1))) := ⟨by omega, hf2, hf4⟩
          have hmn : ts2.length + 1 - (i + 1) < ts2.length + 1 - i := by omega
          exact ⟨(i + 1, (t14.2 + t14.1.2.1.length)), hK.sub ⟨rfl, rfl, rfl, rfl, rfl, rfl, rfl, rfl, rfl, rfl, rfl, rfl, rfl, trivial⟩, (hM.drop 2), hRn, hmn⟩
      · refine stepP hK 80 (.bool false) (by kernel_rfl) (okBool (b := (decide ((((i : Nat) : Int) : Int) < (((ts2 ++ [endT l]).length : Nat) : Int)))) (by kernel_rfl) (decide_eq_false h13)) fun a hK => ?_
        refine region_done hK [(80, .bool false), (76, .bool false), (5, .slice (some ⟨g8, 0, none⟩) ((reAt 0 ts2) ++ [endT (jtx (ts2 ++ [endT l]))]).length k9), (6, .pointer (some ⟨b11, 0, none⟩)), (25, .bool false), (3, .slice (some ⟨g4, 0, none⟩) (ts2 ++ [endT l]).length k5), (4, .pointer (some ⟨b7, 0, none⟩)), (17, .bool false), (14, .bool false), (2, .bool false), (0, Str l), (9, .int .i64 ((i : Nat) : Int)), (7, .int .i64 ((q : Nat) : Int)), (8, .bool false)] ⟨rfl, rfl, rfl, rfl, rfl, rfl, rfl, rfl, rfl, rfl, rfl, rfl, rfl, rfl, trivial⟩ fun a hK => ?_
        refine wp_cond_false (hK.get rfl) ?_
        refine wp_exit (exit_then (exit_then (exit_here 0 ?_)))
        refine wp_seq ?_
        refine region_go (lst := [0]) (by kernel_rfl) ?_
        refine stepP hK 2 (.bool true) (by kernel_rfl) (by kernel_rfl) fun a hK => ?_
        refine region_done hK [(2, .bool true), (80, .bool false), (76, .bool false), (5, .slice (some ⟨g8, 0, none⟩) ((reAt 0 ts2) ++ [endT (jtx (ts2 ++ [endT l]))]).length k9), (6, .pointer (some ⟨b11, 0, none⟩)), (25, .bool false), (3, .slice (some ⟨g4, 0, none⟩) (ts2 ++ [endT l]).length k5), (4, .pointer (some ⟨b7, 0, none⟩)), (17, .bool false), (14, .bool false), (0, Str l), (9, .int .i64 ((i : Nat) : Int)), (7, .int .i64 ((q : Nat) : Int)), (8, .bool false)] ⟨rfl, rfl, rfl, rfl, rfl, rfl, rfl, rfl, rfl, rfl, rfl, rfl, rfl, rfl, trivial⟩ fun a hK => ?_
        refine wp_ret ?_
        exact ret_t hK rfl (u := (.bool true)) rfl (⟨rfl, hM.below⟩)
end Go.Proofs.YtbcfggdifljacaaDoor
