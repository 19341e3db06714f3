/-
  LexGlue: two texts, one behind the other on a new line.
-/
import Derived.Test.YtbcfggdifljacaaDoorLpI
namespace Go.Proofs.YtbcfggdifljacaaDoor
open Go Go.RowKit

/-- A token k bytes on. -/
def shT (k : Nat) (t : TkAt) : TkAt := (t.1, t.2 + k)
def shX (k : Nat) : Nat ⊕ List TkAt → Nat ⊕ List TkAt
  | .inl p => .inl (p + k)
  | .inr ts => .inr (ts.map (shT k))
theorem shX_cons (k : Nat) (t : TkAt) (x : Nat ⊕ List TkAt) : shX k (consT t x) = consT (shT k t) (shX k x) := by cases x <;> rfl
theorem lexF_shift (k : Nat) : ∀ (n at_ : Nat) (r : List UInt8), lexF n (at_ + k) r = shX k (lexF n at_ r) := by
  intro n
  induction n with
  | zero => intro at_ r; rfl
  | succ n ih =>
    intro at_ r
    cases r with
    | nil => rfl
    | cons c r =>
      unfold lexF
      simp only
      split
      · rw [Nat.add_right_comm]; exact ih _ _
      · split
        · rw [shX_cons, ← ih, Nat.add_right_comm]; rfl
        · rfl
theorem lexL_shift (k at_ : Nat) (r : List UInt8) : lexL (at_ + k) r = shX k (lexL at_ r) := lexF_shift k _ _ _
theorem tw_stop {p : UInt8 → Bool} {x : UInt8} {b : List UInt8} (hx : p x = false) : ∀ (r : List UInt8), (r ++ x :: b).takeWhile p = r.takeWhile p := by
  intro r
  induction r with
  | nil => show (x :: b).takeWhile p = []; rw [List.takeWhile_cons, if_neg (by rw [hx]; decide)]
  | cons c r ih =>
    rw [List.cons_append, List.takeWhile_cons, List.takeWhile_cons, ih]
theorem pre_stop {x : UInt8} {b : List UInt8} : ∀ (q r : List UInt8), x ∉ q → List.isPrefixOf q (r ++ x :: b) = List.isPrefixOf q r := by
  intro q
  induction q with
  | nil => intro r _; simp
  | cons y q ih =>
    intro r h
    cases r with
    | nil =>
      show ((y == x) && _) = false
      rw [beq_eq_false_iff_ne.2 (fun e => h (by rw [e]; exact List.mem_cons_self)), Bool.false_and]
    | cons c r =>
      show ((y == c) && List.isPrefixOf q (r ++ x :: b)) = ((y == c) && List.isPrefixOf q r)
      rw [ih r (fun e => h (List.mem_cons_of_mem _ e))]
section
variable {b : List UInt8}
theorem skip_stop {r : List UInt8} (hne : r ≠ []) : skip1 (r ++ 10 :: b) = skip1 r := by
  cases r with
  | nil => exact absurd rfl hne
  | cons c r =>
    have h1 : List.isPrefixOf [47, 47] ((c :: r) ++ 10 :: b) = List.isPrefixOf [47, 47] (c :: r) := pre_stop _ _ (by decide)
    have h2 : runL inLineB ((c :: r) ++ 10 :: b) = runL inLineB (c :: r) := by unfold runL; rw [tw_stop (by decide)]
    show (if isBlankB c = true then some 1 else if List.isPrefixOf [47, 47] ((c :: r) ++ 10 :: b) = true then some (runL inLineB ((c :: r) ++ 10 :: b)) else none) = if isBlankB c = true then some 1 else if List.isPrefixOf [47, 47] (c :: r) = true then some (runL inLineB (c :: r)) else none
    rw [h1, h2]
theorem num_stop (r : List UInt8) : numAt (r ++ 10 :: b) = numAt r := by
  have e1 : (r ++ 10 :: b).takeWhile isDigit = r.takeWhile isDigit := tw_stop (by decide) r
  have hle := (List.takeWhile_prefix (p := isDigit) (l := r)).length_le
  unfold numAt
  rw [e1]
  have e2 : (((r ++ 10 :: b).drop (r.takeWhile isDigit).length).head?.any fun d => isLetter d || (((d.toNat : Nat) : Int) == 95)) = ((r.drop (r.takeWhile isDigit).length).head?.any fun d => isLetter d || (((d.toNat : Nat) : Int) == 95)) := by
    rw [List.drop_append_of_le_length hle]
    cases r.drop (r.takeWhile isDigit).length with
    | nil => rfl
    | cons d q => rfl
  rw [e2]
theorem find_ext {α : Type} {f g : α → Bool} : ∀ {l : List α}, (∀ x ∈ l, f x = g x) → l.find? f = l.find? g := by
  intro l
  induction l with
  | nil => intro _; rfl
  | cons x l ih =>
    intro h
    rw [List.find?_cons, List.find?_cons, h x List.mem_cons_self, ih (fun y hy => h y (List.mem_cons_of_mem _ hy))]
theorem sign_stop (r : List UInt8) : signAt (r ++ 10 :: b) = signAt r := by
  unfold signAt
  have hs : ∀ q ∈ signL, (10 : UInt8) ∉ q := by decide
  exact find_ext fun q hq => pre_stop q r (hs q hq)
theorem one_stop {r : List UInt8} (hne : r ≠ []) : oneOf (r ++ 10 :: b) = oneOf r := by
  cases r with
  | nil => exact absurd rfl hne
  | cons c r =>
    have h1 : ((c :: r) ++ 10 :: b).takeWhile wordB = (c :: r).takeWhile wordB := tw_stop (by decide) _
    have h2 : ((c :: r) ++ 10 :: b).takeWhile isDigit = (c :: r).takeWhile isDigit := tw_stop (by decide) _
    have h3 := num_stop (b := b) (c :: r)
    have h4 := sign_stop (b := b) (c :: r)
    show (if isLetter c = true then some (((kindOf (((c :: r) ++ 10 :: b).takeWhile wordB) : Nat) : Int), ((c :: r) ++ 10 :: b).takeWhile wordB, 0) else if isDigit c = true then (numAt ((c :: r) ++ 10 :: b)).map fun n => (3, ((c :: r) ++ 10 :: b).takeWhile isDigit, n) else (signAt ((c :: r) ++ 10 :: b)).map fun q => (4, q, 0)) = _
    rw [h1, h2, h3, h4]; rfl
end
theorem lexF_places : ∀ (n at_ : Nat) (r : List UInt8), r.length ≤ n → (∀ p, lexF n at_ r = .inl p → p ≤ at_ + r.length) ∧ ∀ ts, lexF n at_ r = .inr ts → ∀ t ∈ ts, at_ ≤ t.2 ∧ t.2 + t.1.2.1.length ≤ at_ + r.length := by
  intro n
  induction n with
  | zero => intro at_ r h; exact ⟨fun p h => (by cases h), fun ts h t ht => (by obtain rfl := Sum.inr.inj h; cases ht)⟩
  | succ n ih =>
    intro at_ r h
    cases r with
    | nil => exact ⟨fun p h => (by cases h), fun ts h t ht => (by obtain rfl := Sum.inr.inj h; cases ht)⟩
    | cons c r =>
      unfold lexF
      simp only
      cases hs : skip1 (c :: r) with
      | some k =>
        have hp := skip1_pos hs
        have hl : ((c :: r).drop k).length = (c :: r).length - k := List.length_drop
        obtain ⟨h1, h2⟩ := ih (at_ + k) ((c :: r).drop k) (by omega)
        exact ⟨fun p e => (by have := h1 p e; omega), fun ts e t ht => (by have := h2 ts e t ht; omega)⟩
      | none =>
        simp only
        cases ho : oneOf (c :: r) with
        | none => exact ⟨fun p e => (by obtain rfl := Sum.inl.inj e; omega), fun ts e => (by cases e)⟩
        | some u =>
          have hp := one_len ho
          have hl : ((c :: r).drop u.2.1.length).length = (c :: r).length - u.2.1.length := List.length_drop
          obtain ⟨h1, h2⟩ := ih (at_ + u.2.1.length) ((c :: r).drop u.2.1.length) (by omega)
          simp only
          cases hq : lexF n (at_ + u.2.1.length) ((c :: r).drop u.2.1.length) with
          | inl q => exact ⟨fun p e => (by obtain rfl := Sum.inl.inj e; have := h1 q hq; omega), fun ts e => (by cases e)⟩
          | inr us =>
            refine ⟨fun p e => (by cases e), fun ts e t ht => ?_⟩
            obtain rfl := Sum.inr.inj e
            rcases List.mem_cons.1 ht with rfl | ht
            · show at_ ≤ at_ ∧ at_ + u.2.1.length ≤ _; omega
            · have := h2 us hq t ht; omega
theorem bad_le {l : List UInt8} {p : Nat} (h : lexL 0 l = .inl p) : p ≤ l.length := by
  have := (lexF_places l.length 0 l (Nat.le_refl _)).1 p h; omega
theorem at_le {l : List UInt8} {ts : List TkAt} (h : lexL 0 l = .inr ts) {k : Nat} {t : TkAt} (ht : (ts ++ [endT l])[k]? = some t) : t.2 ≤ l.length := by
  rcases List.mem_append.1 (List.mem_of_getElem? ht) with hm | hm
  · have := (lexF_places l.length 0 l (Nat.le_refl _)).2 ts h t hm; omega
  · rw [List.mem_singleton.1 hm]; exact Nat.le_refl _
def glueX (k : Nat) (b : List UInt8) : Nat ⊕ List TkAt → Nat ⊕ List TkAt
  | .inl p => .inl p
  | .inr ts => preT ts (lexL k b)
theorem glueX_cons (k : Nat) (b : List UInt8) (t : TkAt) (x : Nat ⊕ List TkAt) : glueX k b (consT t x) = consT t (glueX k b x) := by
  cases x with
  | inl e => rfl
  | inr ts =>
    show preT (t :: ts) (lexL k b) = consT t (preT ts (lexL k b))
    cases lexL k b <;> rfl
theorem glue_ind (b : List UInt8) : ∀ (n at_ : Nat) (r : List UInt8), r.length ≤ n → lexL at_ (r ++ 10 :: b) = glueX (at_ + r.length + 1) b (lexL at_ r) := by
  intro n
  induction n with
  | zero =>
    intro at_ r h
    obtain rfl : r = [] := List.eq_nil_of_length_eq_zero (by omega)
    show lexL at_ (10 :: b) = preT [] (lexL (at_ + 0 + 1) b)
    rw [preT_nil, lexL_skip (k := 1) (show skip1 (10 :: b) = some 1 from rfl)]; rfl
  | succ n ih =>
    intro at_ r h
    by_cases hne : r = []
    · subst hne
      show lexL at_ (10 :: b) = preT [] (lexL (at_ + 0 + 1) b)
      rw [preT_nil, lexL_skip (k := 1) (show skip1 (10 :: b) = some 1 from rfl)]; rfl
    · cases hs : skip1 r with
      | some k =>
        have hp := skip1_pos hs
        rw [lexL_skip (r := r ++ 10 :: b) (k := k) (by rw [skip_stop hne]; exact hs), lexL_skip hs, List.drop_append_of_le_length hp.2, ih _ _ (by rw [List.length_drop]; omega), List.length_drop]
        congr 1; omega
      | none =>
        have hne2 : r ++ 10 :: b ≠ [] := by simp
        cases ho : oneOf r with
        | none => rw [lexL_bad hne2 (by rw [skip_stop hne]; exact hs) (by rw [one_stop hne]; exact ho), lexL_bad hne hs ho]; rfl
        | some t =>
          have hp := one_len ho
          rw [lexL_tok (r := r ++ 10 :: b) (by rw [skip_stop hne]; exact hs) (by rw [one_stop hne]; exact ho), lexL_tok hs ho, glueX_cons, List.drop_append_of_le_length hp.2, ih _ _ (by rw [List.length_drop]; omega), List.length_drop]
          congr 2; omega
theorem glue (la lb : List UInt8) : lexL 0 ((la ++ [10]) ++ lb) = glueX (la.length + 1) lb (lexL 0 la) := by
  have := glue_ind lb la.length 0 la (Nat.le_refl _)
  rw [List.append_assoc, show [10] ++ lb = 10 :: lb from rfl, this, Nat.zero_add]
section
variable {la lb : List UInt8}
theorem glue_a {p : Nat} (h : lexL 0 la = .inl p) : lexL 0 ((la ++ [10]) ++ lb) = .inl p := by rw [glue, h]; rfl
theorem glue_b {ta : List TkAt} {p : Nat} (h : lexL 0 la = .inr ta) (k : lexL 0 lb = .inl p) : lexL 0 ((la ++ [10]) ++ lb) = .inl (p + la.length + 1) := by
  rw [glue, h]
  show preT ta (lexL (la.length + 1) lb) = _
  have := lexL_shift (la.length + 1) 0 lb
  rw [Nat.zero_add] at this
  rw [this, k]; rfl
theorem glue_c {ta tb : List TkAt} (h : lexL 0 la = .inr ta) (k : lexL 0 lb = .inr tb) : lexL 0 ((la ++ [10]) ++ lb) = .inr (ta ++ tb.map (shT (la.length + 1))) := by
  rw [glue, h]
  show preT ta (lexL (la.length + 1) lb) = _
  have := lexL_shift (la.length + 1) 0 lb
  rw [Nat.zero_add] at this
  rw [this, k]; rfl
theorem glue_len (ta tb : List TkAt) : ((ta ++ tb.map (shT (la.length + 1))) ++ [endT ((la ++ [10]) ++ lb)]).length = ta.length + (tb.length + 1) := by simp <;> omega
theorem glue_lt {ta tb : List TkAt} {i : Nat} (hi : i < ta.length) {t u : TkAt} (h : ((ta ++ tb.map (shT (la.length + 1))) ++ [endT ((la ++ [10]) ++ lb)])[i]? = some t) (k : (ta ++ [endT la])[i]? = some u) : t = u := by
  rw [List.append_assoc, List.getElem?_append_left hi] at h
  rw [List.getElem?_append_left hi, h] at k
  exact Option.some.inj k
theorem glue_ge {ta tb : List TkAt} {i : Nat} (hi : ta.length ≤ i) {t u : TkAt} (h : ((ta ++ tb.map (shT (la.length + 1))) ++ [endT ((la ++ [10]) ++ lb)])[i]? = some t) (k : (tb ++ [endT lb])[i - ta.length]? = some u) : t = (u.1, u.2 + la.length + 1) := by
  have e : (ta ++ tb.map (shT (la.length + 1))) ++ [endT ((la ++ [10]) ++ lb)] = ta ++ (tb ++ [endT lb]).map (shT (la.length + 1)) := by
    rw [List.append_assoc, List.map_append]
    congr 2
    show [endT _] = [shT (la.length + 1) (endT lb)]
    unfold endT shT
    simp <;> omega
  rw [e, List.getElem?_append_right hi, List.getElem?_map, k] at h
  rw [← Option.some.inj h]; rfl
end
set_option maxRecDepth 100000 in
set_option maxHeartbeats 4000000 in
theorem glue_yes (la lb : List UInt8) (w0 : World) (hE : ErrOk w0) (hsa : la.length ≤ 9223372036854775807) (hsb : lb.length ≤ 9223372036854775807) : Calls Tryd.prog 7 #[Str la, Str lb] w0 (Ret w0 (.bool true)) := by
  refine calls_K (args := [Str la, Str lb]) (n := 126) (env := [(0, Str la), (1, Str lb)]) Tryd.func7 rfl rfl rfl ⟨rfl, rfl, trivial⟩ fun a w hK hM => ?_
  refine wp_seq ?_
  refine region_go (lst := [0]) (by kernel_rfl) ?_
  refine stepP hK 4 (.bool false) (by kernel_rfl) (by kernel_rfl) fun a hK => ?_
  refine region_done hK [(4, .bool false), (0, Str la), (1, Str lb)] ⟨rfl, rfl, rfl, trivial⟩ fun a hK => ?_
  refine wp_seq ?_
  refine wp_seq ?_
  refine region_go (lst := [0, 1]) (by kernel_rfl) ?_
  refine stepRet hK hM 13 #[] (.bool true) (by kernel_rfl) (run_callE en_cantileverlaw02_lives rfl rfl (by kernel_rfl)) (law_lives _ (hE.on hM.below)) fun a w hK hM => ?_
  refine stepP hK 14 (.bool false) (by kernel_rfl) (by kernel_rfl) fun a hK => ?_
  refine region_done hK [(14, .bool false), (4, .bool false), (0, Str la), (1, Str lb)] ⟨rfl, rfl, rfl, rfl, trivial⟩ fun a hK => ?_
  refine wp_cond_false (hK.get rfl) ?_
  refine wp_skip ?_
  refine wp_seq ?_
  refine wp_seq ?_
  refine region_go (lst := [0, 1, 2, 3, 4, 5, 6, 7]) (by kernel_rfl) ?_
  refine stepM hK 15 0 (by kernel_rfl) (.inl rfl) rfl fun a hK => ?_
  refine stepP hK 16 (.int .i64 ((la.length : Nat) : Int)) (by kernel_rfl) (by kernel_rfl) fun a hK => ?_
  by_cases h1 : (3000 : Int) < ((la.length : Nat) : Int)
  · refine stepP hK 17 (.bool true) (by kernel_rfl) (okBool (b := (decide ((3000 : Int) < ((la.length : Nat) : Int)))) (by kernel_rfl) (decide_eq_true h1)) fun a hK => ?_
    refine stepM hK 18 17 (by kernel_rfl) (.inl rfl) rfl fun a hK => ?_
    refine stepN hK 19 (by kernel_rfl) fun a hK => ?_
    refine stepN hK 20 (by kernel_rfl) fun a hK => ?_
    refine stepN hK 21 (by kernel_rfl) fun a hK => ?_
    refine stepP hK 22 (.bool true) (by kernel_rfl) (by kernel_rfl) fun a hK => ?_
    refine region_done hK [(22, .bool true), (14, .bool false), (4, .bool false), (0, Str la), (1, Str lb)] ⟨rfl, rfl, rfl, rfl, rfl, trivial⟩ fun a hK => ?_
    refine wp_cond_true (hK.get rfl) ?_
    refine wp_seq ?_
    refine region_go (lst := [0]) (by kernel_rfl) ?_
    refine stepP hK 4 (.bool true) (by kernel_rfl) (by kernel_rfl) fun a hK => ?_
    refine region_done hK [(4, .bool true), (22, .bool true), (14, .bool false), (0, Str la), (1, Str lb)] ⟨rfl, rfl, rfl, rfl, rfl, trivial⟩ fun a hK => ?_
    refine wp_ret ?_
    exact ret_t hK rfl (u := (.bool true)) rfl (⟨rfl, hM.below⟩)
  · refine stepP hK 17 (.bool false) (by kernel_rfl) (okBool (b := (decide ((3000 : Int) < ((la.length : Nat) : Int)))) (by kernel_rfl) (decide_eq_false h1)) fun a hK => ?_
    refine stepM hK 18 17 (by kernel_rfl) (.inl rfl) rfl fun a hK => ?_
    refine stepM hK 19 1 (by kernel_rfl) (.inl rfl) rfl fun a hK => ?_
    refine stepP hK 20 (.int .i64 ((lb.length : Nat) : Int)) (by kernel_rfl) (by kernel_rfl) fun a hK => ?_
    by_cases h2 : (3000 : Int) < ((lb.length : Nat) : Int)
    · refine stepP hK 21 (.bool true) (by kernel_rfl) (okBool (b := (decide ((3000 : Int) < ((lb.length : Nat) : Int)))) (by kernel_rfl) (decide_eq_true h2)) fun a hK => ?_
      refine stepP hK 22 (.bool true) (by kernel_rfl) (by kernel_rfl) fun a hK => ?_
      refine region_done hK [(22, .bool true), (14, .bool false), (4, .bool false), (0, Str la), (1, Str lb)] ⟨rfl, rfl, rfl, rfl, rfl, trivial⟩ fun a hK => ?_
      refine wp_cond_true (hK.get rfl) ?_
      refine wp_seq ?_
      refine region_go (lst := [0]) (by kernel_rfl) ?_
      refine stepP hK 4 (.bool true) (by kernel_rfl) (by kernel_rfl) fun a hK => ?_
      refine region_done hK [(4, .bool true), (22, .bool true), (14, .bool false), (0, Str la), (1, Str lb)] ⟨rfl, rfl, rfl, rfl, rfl, trivial⟩ fun a hK => ?_
      refine wp_ret ?_
      exact ret_t hK rfl (u := (.bool true)) rfl (⟨rfl, hM.below⟩)
    · refine stepP hK 21 (.bool false) (by kernel_rfl) (okBool (b := (decide ((3000 : Int) < ((lb.length : Nat) : Int)))) (by kernel_rfl) (decide_eq_false h2)) fun a hK => ?_
      refine stepP hK 22 (.bool false) (by kernel_rfl) (by kernel_rfl) fun a hK => ?_
      refine region_done hK [(22, .bool false), (14, .bool false), (4, .bool false), (0, Str la), (1, Str lb)] ⟨rfl, rfl, rfl, rfl, rfl, trivial⟩ fun a hK => ?_
      refine wp_cond_false (hK.get rfl) ?_
      refine wp_skip ?_
      refine wp_seq ?_
      refine region_go (lst := [0, 1, 2, 3, 4, 5, 6, 7]) (by kernel_rfl) ?_
      refine stepM hK 24 0 (by kernel_rfl) (.inl rfl) rfl fun a hK => ?_
      rcases hx3 : lexL 0 la with p3 | ts3
      · refine stepRet hK hM 25 #[Str la] (.tuple #[.slice none 0 0, .agg #[.int .i64 4, .int .i64 ((p3 : Nat) : Int)]]) (by kernel_rfl) (run_callE en_lex_All rfl rfl (by kernel_rfl)) (All_bad (lex_All la _ (hE.on hM.below) (by first | omega | decide | (simp; omega))) (by first | omega | (simp; omega)) hx3) fun a w hK hM => ?_
        refine stepM hK 23 25 (by kernel_rfl) (.inl rfl) rfl fun a hK => ?_
        refine stepP hK 26 (.slice none 0 0) (by kernel_rfl) (by kernel_rfl) fun a hK => ?_
        refine stepP hK 27 (.agg #[.int .i64 4, .int .i64 ((p3 : Nat) : Int)]) (by kernel_rfl) (by kernel_rfl) fun a hK => ?_
        refine stepAlloc hK hM 6 24 [.int .i64 0, .int .i64 0] (fun b => .pointer (some ⟨b, 0, none⟩)) (by kernel_rfl) (by kernel_rfl) fun b4 a w hK hM => ?_
        refine stepM hK 5 26 (by kernel_rfl) (.inr rfl) rfl fun a hK => ?_
        refine stepStore hK hM 0 [.int .i64 4, .int .i64 ((p3 : Nat) : Int)] (by kernel_rfl) rfl rfl rfl rfl (by kernel_rfl) fun w hM => ?_
        replace hM := hM.to [.row b4 24 [.int .i64 4, .int .i64 ((p3 : Nat) : Int)]] (by kernel_rfl)
        refine region_done hK [(5, .slice none 0 0), (6, .pointer (some ⟨b4, 0, none⟩)), (22, .bool false), (14, .bool false), (4, .bool false), (0, Str la), (1, Str lb)] ⟨rfl, rfl, rfl, rfl, rfl, rfl, rfl, trivial⟩ fun a hK => ?_
        refine wp_seq ?_
        refine region_go (lst := [0, 1, 2, 3, 4, 5, 6, 7]) (by kernel_rfl) ?_
        refine stepM hK 29 1 (by kernel_rfl) (.inl rfl) rfl fun a hK => ?_
        rcases hx5 : lexL 0 lb with p5 | ts5
        · refine stepRet hK hM 30 #[Str lb] (.tuple #[.slice none 0 0, .agg #[.int .i64 4, .int .i64 ((p5 : Nat) : Int)]]) (by kernel_rfl) (run_callE en_lex_All rfl rfl (by kernel_rfl)) (All_bad (lex_All lb _ (hE.on hM.below) (by first | omega | decide | (simp; omega))) (by first | omega | (simp; omega)) hx5) fun a w hK hM => ?_
          refine stepM hK 28 30 (by kernel_rfl) (.inl rfl) rfl fun a hK => ?_
          refine stepP hK 31 (.slice none 0 0) (by kernel_rfl) (by kernel_rfl) fun a hK => ?_
          refine stepP hK 32 (.agg #[.int .i64 4, .int .i64 ((p5 : Nat) : Int)]) (by kernel_rfl) (by kernel_rfl) fun a hK => ?_
          refine stepAlloc hK hM 8 24 [.int .i64 0, .int .i64 0] (fun b => .pointer (some ⟨b, 0, none⟩)) (by kernel_rfl) (by kernel_rfl) fun b6 a w hK hM => ?_
          refine stepM hK 7 31 (by kernel_rfl) (.inr rfl) rfl fun a hK => ?_
          refine stepStore hK hM 0 [.int .i64 4, .int .i64 ((p5 : Nat) : Int)] (by kernel_rfl) rfl rfl rfl rfl (by kernel_rfl) fun w hM => ?_
          replace hM := hM.to [.row b6 24 [.int .i64 4, .int .i64 ((p5 : Nat) : Int)], .row b4 24 [.int .i64 4, .int .i64 ((p3 : Nat) : Int)]] (by kernel_rfl)
          refine region_done hK [(7, .slice none 0 0), (8, .pointer (some ⟨b6, 0, none⟩)), (5, .slice none 0 0), (6, .pointer (some ⟨b4, 0, none⟩)), (22, .bool false), (14, .bool false), (4, .bool false), (0, Str la), (1, Str lb)] ⟨rfl, rfl, rfl, rfl, rfl, rfl, rfl, rfl, rfl, trivial⟩ fun a hK => ?_
          refine wp_seq ?_
          refine region_go (lst := [0, 1, 2, 3, 4, 5, 6, 7, 8, 9, 10]) (by kernel_rfl) ?_
          refine stepM hK 34 0 (by kernel_rfl) (.inl rfl) rfl fun a hK => ?_
          refine stepP hK 35 (Str (la ++ [10])) (by kernel_rfl) (run_catS rfl rfl rfl (by first | omega | (simp; omega))) fun a hK => ?_
          refine stepM hK 36 1 (by kernel_rfl) (.inl rfl) rfl fun a hK => ?_
          refine stepP hK 37 (Str ((la ++ [10]) ++ lb)) (by kernel_rfl) (run_catS rfl rfl rfl (by first | omega | (simp; omega))) fun a hK => ?_
          have hpb := bad_le hx5
          have hxg := glue_a (lb := lb) hx3
          refine stepRet hK hM 38 #[Str ((la ++ [10]) ++ lb)] (.tuple #[.slice none 0 0, .agg #[.int .i64 4, .int .i64 ((p3 : Nat) : Int)]]) (by kernel_rfl) (run_callE en_lex_All rfl rfl (by kernel_rfl)) (All_bad (lex_All ((la ++ [10]) ++ lb) _ (hE.on hM.below) (by first | omega | decide | (simp; omega))) (by first | omega | (simp; omega)) hxg) fun a w hK hM => ?_
          refine stepM hK 33 38 (by kernel_rfl) (.inl rfl) rfl fun a hK => ?_
          refine stepP hK 39 (.slice none 0 0) (by kernel_rfl) (by kernel_rfl) fun a hK => ?_
          refine stepP hK 40 (.agg #[.int .i64 4, .int .i64 ((p3 : Nat) : Int)]) (by kernel_rfl) (by kernel_rfl) fun a hK => ?_
          refine stepAlloc hK hM 10 24 [.int .i64 0, .int .i64 0] (fun b => .pointer (some ⟨b, 0, none⟩)) (by kernel_rfl) (by kernel_rfl) fun b7 a w hK hM => ?_
          refine stepM hK 9 39 (by kernel_rfl) (.inr rfl) rfl fun a hK => ?_
          refine stepStore hK hM 0 [.int .i64 4, .int .i64 ((p3 : Nat) : Int)] (by kernel_rfl) rfl rfl rfl rfl (by kernel_rfl) fun w hM => ?_
          replace hM := hM.to [.row b7 24 [.int .i64 4, .int .i64 ((p3 : Nat) : Int)], .row b6 24 [.int .i64 4, .int .i64 ((p5 : Nat) : Int)], .row b4 24 [.int .i64 4, .int .i64 ((p3 : Nat) : Int)]] (by kernel_rfl)
          refine region_done hK [(9, .slice none 0 0), (10, .pointer (some ⟨b7, 0, none⟩)), (7, .slice none 0 0), (8, .pointer (some ⟨b6, 0, none⟩)), (5, .slice none 0 0), (6, .pointer (some ⟨b4, 0, none⟩)), (22, .bool false), (14, .bool false), (4, .bool false), (0, Str la), (1, Str lb)] ⟨rfl, rfl, rfl, rfl, rfl, rfl, rfl, rfl, rfl, rfl, rfl, trivial⟩ fun a hK => ?_
          refine wp_seq ?_
          refine wp_seq ?_
          refine region_go (lst := [0, 1, 2]) (by kernel_rfl) ?_
          refine stepLoad hK 41 (.agg #[.int .i64 4, .int .i64 ((p3 : Nat) : Int)]) (by kernel_rfl) rfl rfl ((hM.row 2 rfl).cells 0 2) (by kernel_rfl) fun a hK => ?_
          refine stepP hK 42 (.agg #[.int .i64 0, .int .i64 0]) (by kernel_rfl) (by kernel_rfl) fun a hK => ?_
          refine stepP hK 43 (.bool true) (by kernel_rfl) (okBool (run_neqFlt rfl rfl rfl) (by simp)) fun a hK => ?_
          refine region_done hK [(43, .bool true), (9, .slice none 0 0), (10, .pointer (some ⟨b7, 0, none⟩)), (7, .slice none 0 0), (8, .pointer (some ⟨b6, 0, none⟩)), (5, .slice none 0 0), (6, .pointer (some ⟨b4, 0, none⟩)), (22, .bool false), (14, .bool false), (4, .bool false), (0, Str la), (1, Str lb)] ⟨rfl, rfl, rfl, rfl, rfl, rfl, rfl, rfl, rfl, rfl, rfl, rfl, trivial⟩ fun a hK => ?_
          refine wp_cond_true (hK.get rfl) ?_
          refine wp_seq ?_
          refine region_go (lst := [0, 1, 2, 3, 4, 5, 6, 7, 8]) (by kernel_rfl) ?_
          refine stepLoad hK 44 (.agg #[.int .i64 4, .int .i64 ((p3 : Nat) : Int)]) (by kernel_rfl) rfl rfl ((hM.row 0 rfl).cells 0 2) (by kernel_rfl) fun a hK => ?_
          refine stepLoad hK 45 (.agg #[.int .i64 4, .int .i64 ((p3 : Nat) : Int)]) (by kernel_rfl) rfl rfl ((hM.row 2 rfl).cells 0 2) (by kernel_rfl) fun a hK => ?_
          refine stepP hK 46 (.bool true) (by kernel_rfl) (okBool (run_eqlFlt rfl rfl rfl) (by simp)) fun a hK => ?_
          refine stepM hK 47 46 (by kernel_rfl) (.inl rfl) rfl fun a hK => ?_
          refine stepM hK 48 9 (by kernel_rfl) (.inl rfl) rfl fun a hK => ?_
          refine stepP hK 49 (.int .i64 0) (by kernel_rfl) (by kernel_rfl) fun a hK => ?_
          refine stepP hK 50 (.bool true) (by kernel_rfl) (by kernel_rfl) fun a hK => ?_
          refine stepP hK 51 (.bool true) (by kernel_rfl) (by kernel_rfl) fun a hK => ?_
          refine stepM hK 4 51 (by kernel_rfl) (.inr rfl) rfl fun a hK => ?_
          refine region_done hK [(4, .bool true), (43, .bool true), (9, .slice none 0 0), (10, .pointer (some ⟨b7, 0, none⟩)), (7, .slice none 0 0), (8, .pointer (some ⟨b6, 0, none⟩)), (5, .slice none 0 0), (6, .pointer (some ⟨b4, 0, none⟩)), (22, .bool false), (14, .bool false), (0, Str la), (1, Str lb)] ⟨rfl, rfl, rfl, rfl, rfl, rfl, rfl, rfl, rfl, rfl, rfl, rfl, trivial⟩ fun a hK => ?_
          refine wp_ret ?_
          exact ret_t hK rfl (u := (.bool true)) rfl (⟨rfl, hM.below⟩)
        · refine stepCall hK hM 30 #[Str lb] (by kernel_rfl) (run_callE en_lex_All rfl rfl (by kernel_rfl)) (All_good (lex_All lb _ (hE.on hM.below) (by first | omega | decide | (simp; omega))) (by first | omega | (simp; omega)) hx5) ?_
          rintro ⟨g8, k9⟩ a w - hK hM
          refine stepM hK 28 30 (by kernel_rfl) (.inl rfl) rfl fun a hK => ?_
          refine stepP hK 31 (.slice (some ⟨g8, 0, none⟩) (ts5 ++ [endT lb]).length k9) (by kernel_rfl) (by kernel_rfl) fun a hK => ?_
          refine stepP hK 32 (.agg #[.int .i64 0, .int .i64 0]) (by kernel_rfl) (by kernel_rfl) fun a hK => ?_
          refine stepAlloc hK hM 8 24 [.int .i64 0, .int .i64 0] (fun b => .pointer (some ⟨b, 0, none⟩)) (by kernel_rfl) (by kernel_rfl) fun b11 a w hK hM => ?_
          refine stepM hK 7 31 (by kernel_rfl) (.inr rfl) rfl fun a hK => ?_
          refine stepStore hK hM 0 [.int .i64 0, .int .i64 0] (by kernel_rfl) rfl rfl rfl rfl (by kernel_rfl) fun w hM => ?_
          replace hM := hM.to [.row b11 24 [.int .i64 0, .int .i64 0], .own 35 4 (.slice (some ⟨g8, 0, none⟩) (ts5 ++ [endT lb]).length k9) (ts5 ++ [endT lb]).length (cellsT (ts5 ++ [endT lb])), .row b4 24 [.int .i64 4, .int .i64 ((p3 : Nat) : Int)]] (by kernel_rfl)
          refine region_done hK [(7, .slice (some ⟨g8, 0, none⟩) (ts5 ++ [endT lb]).length k9), (8, .pointer (some ⟨b11, 0, none⟩)), (5, .slice none 0 0), (6, .pointer (some ⟨b4, 0, none⟩)), (22, .bool false), (14, .bool false), (4, .bool false), (0, Str la), (1, Str lb)] ⟨rfl, rfl, rfl, rfl, rfl, rfl, rfl, rfl, rfl, trivial⟩ fun a hK => ?_
          refine wp_seq ?_
          refine region_go (lst := [0, 1, 2, 3, 4, 5, 6, 7, 8, 9, 10]) (by kernel_rfl) ?_
          refine stepM hK 34 0 (by kernel_rfl) (.inl rfl) rfl fun a hK => ?_
          refine stepP hK 35 (Str (la ++ [10])) (by kernel_rfl) (run_catS rfl rfl rfl (by first | omega | (simp; omega))) fun a hK => ?_
          refine stepM hK 36 1 (by kernel_rfl) (.inl rfl) rfl fun a hK => ?_
          refine stepP hK 37 (Str ((la ++ [10]) ++ lb)) (by kernel_rfl) (run_catS rfl rfl rfl (by first | omega | (simp; omega))) fun a hK => ?_
          have hxg := glue_a (lb := lb) hx3
          refine stepRet hK hM 38 #[Str ((la ++ [10]) ++ lb)] (.tuple #[.slice none 0 0, .agg #[.int .i64 4, .int .i64 ((p3 : Nat) : Int)]]) (by kernel_rfl) (run_callE en_lex_All rfl rfl (by kernel_rfl)) (All_bad (lex_All ((la ++ [10]) ++ lb) _ (hE.on hM.below) (by first | omega | decide | (simp; omega))) (by first | omega | (simp; omega)) hxg) fun a w hK hM => ?_
          refine stepM hK 33 38 (by kernel_rfl) (.inl rfl) rfl fun a hK => ?_
          refine stepP hK 39 (.slice none 0 0) (by kernel_rfl) (by kernel_rfl) fun a hK => ?_
          refine stepP hK 40 (.agg #[.int .i64 4, .int .i64 ((p3 : Nat) : Int)]) (by kernel_rfl) (by kernel_rfl) fun a hK => ?_
          refine stepAlloc hK hM 10 24 [.int .i64 0, .int .i64 0] (fun b => .pointer (some ⟨b, 0, none⟩)) (by kernel_rfl) (by kernel_rfl) fun b12 a w hK hM => ?_
          refine stepM hK 9 39 (by kernel_rfl) (.inr rfl) rfl fun a hK => ?_
          refine stepStore hK hM 0 [.int .i64 4, .int .i64 ((p3 : Nat) : Int)] (by kernel_rfl) rfl rfl rfl rfl (by kernel_rfl) fun w hM => ?_
          replace hM := hM.to [.row b12 24 [.int .i64 4, .int .i64 ((p3 : Nat) : Int)], .row b11 24 [.int .i64 0, .int .i64 0], .own 35 4 (.slice (some ⟨g8, 0, none⟩) (ts5 ++ [endT lb]).length k9) (ts5 ++ [endT lb]).length (cellsT (ts5 ++ [endT lb])), .row b4 24 [.int .i64 4, .int .i64 ((p3 : Nat) : Int)]] (by kernel_rfl)
          refine region_done hK [(9, .slice none 0 0), (10, .pointer (some ⟨b12, 0, none⟩)), (7, .slice (some ⟨g8, 0, none⟩) (ts5 ++ [endT lb]).length k9), (8, .pointer (some ⟨b11, 0, none⟩)), (5, .slice none 0 0), (6, .pointer (some ⟨b4, 0, none⟩)), (22, .bool false), (14, .bool false), (4, .bool false), (0, Str la), (1, Str lb)] ⟨rfl, rfl, rfl, rfl, rfl, rfl, rfl, rfl, rfl, rfl, rfl, trivial⟩ fun a hK => ?_
          refine wp_seq ?_
          refine wp_seq ?_
          refine region_go (lst := [0, 1, 2]) (by kernel_rfl) ?_
          refine stepLoad hK 41 (.agg #[.int .i64 4, .int .i64 ((p3 : Nat) : Int)]) (by kernel_rfl) rfl rfl ((hM.row 3 rfl).cells 0 2) (by kernel_rfl) fun a hK => ?_
          refine stepP hK 42 (.agg #[.int .i64 0, .int .i64 0]) (by kernel_rfl) (by kernel_rfl) fun a hK => ?_
          refine stepP hK 43 (.bool true) (by kernel_rfl) (okBool (run_neqFlt rfl rfl rfl) (by simp)) fun a hK => ?_
          refine region_done hK [(43, .bool true), (9, .slice none 0 0), (10, .pointer (some ⟨b12, 0, none⟩)), (7, .slice (some ⟨g8, 0, none⟩) (ts5 ++ [endT lb]).length k9), (8, .pointer (some ⟨b11, 0, none⟩)), (5, .slice none 0 0), (6, .pointer (some ⟨b4, 0, none⟩)), (22, .bool false), (14, .bool false), (4, .bool false), (0, Str la), (1, Str lb)] ⟨rfl, rfl, rfl, rfl, rfl, rfl, rfl, rfl, rfl, rfl, rfl, rfl, trivial⟩ fun a hK => ?_
          refine wp_cond_true (hK.get rfl) ?_
          refine wp_seq ?_
          refine region_go (lst := [0, 1, 2, 3, 4, 5, 6, 7, 8]) (by kernel_rfl) ?_
          refine stepLoad hK 44 (.agg #[.int .i64 4, .int .i64 ((p3 : Nat) : Int)]) (by kernel_rfl) rfl rfl ((hM.row 0 rfl).cells 0 2) (by kernel_rfl) fun a hK => ?_
          refine stepLoad hK 45 (.agg #[.int .i64 4, .int .i64 ((p3 : Nat) : Int)]) (by kernel_rfl) rfl rfl ((hM.row 3 rfl).cells 0 2) (by kernel_rfl) fun a hK => ?_
          refine stepP hK 46 (.bool true) (by kernel_rfl) (okBool (run_eqlFlt rfl rfl rfl) (by simp)) fun a hK => ?_
          refine stepM hK 47 46 (by kernel_rfl) (.inl rfl) rfl fun a hK => ?_
          refine stepM hK 48 9 (by kernel_rfl) (.inl rfl) rfl fun a hK => ?_
          refine stepP hK 49 (.int .i64 0) (by kernel_rfl) (by kernel_rfl) fun a hK => ?_
          refine stepP hK 50 (.bool true) (by kernel_rfl) (by kernel_rfl) fun a hK => ?_
          refine stepP hK 51 (.bool true) (by kernel_rfl) (by kernel_rfl) fun a hK => ?_
          refine stepM hK 4 51 (by kernel_rfl) (.inr rfl) rfl fun a hK => ?_
          refine region_done hK [(4, .bool true), (43, .bool true), (9, .slice none 0 0), (10, .pointer (some ⟨b12, 0, none⟩)), (7, .slice (some ⟨g8, 0, none⟩) (ts5 ++ [endT lb]).length k9), (8, .pointer (some ⟨b11, 0, none⟩)), (5, .slice none 0 0), (6, .pointer (some ⟨b4, 0, none⟩)), (22, .bool false), (14, .bool false), (0, Str la), (1, Str lb)] ⟨rfl, rfl, rfl, rfl, rfl, rfl, rfl, rfl, rfl, rfl, rfl, rfl, trivial⟩ fun a hK => ?_
          refine wp_ret ?_
          exact ret_t hK rfl (u := (.bool true)) rfl (⟨rfl, hM.below⟩)
      · refine stepCall hK hM 25 #[Str la] (by kernel_rfl) (run_callE en_lex_All rfl rfl (by kernel_rfl)) (All_good (lex_All la _ (hE.on hM.below) (by first | omega | decide | (simp; omega))) (by first | omega | (simp; omega)) hx3) ?_
        rintro ⟨g13, k14⟩ a w - hK hM
        refine stepM hK 23 25 (by kernel_rfl) (.inl rfl) rfl fun a hK => ?_
        refine stepP hK 26 (.slice (some ⟨g13, 0, none⟩) (ts3 ++ [endT la]).length k14) (by kernel_rfl) (by kernel_rfl) fun a hK => ?_
        refine stepP hK 27 (.agg #[.int .i64 0, .int .i64 0]) (by kernel_rfl) (by kernel_rfl) fun a hK => ?_
        refine stepAlloc hK hM 6 24 [.int .i64 0, .int .i64 0] (fun b => .pointer (some ⟨b, 0, none⟩)) (by kernel_rfl) (by kernel_rfl) fun b16 a w hK hM => ?_
        refine stepM hK 5 26 (by kernel_rfl) (.inr rfl) rfl fun a hK => ?_
        refine stepStore hK hM 0 [.int .i64 0, .int .i64 0] (by kernel_rfl) rfl rfl rfl rfl (by kernel_rfl) fun w hM => ?_
        replace hM := hM.to [.row b16 24 [.int .i64 0, .int .i64 0], .own 35 4 (.slice (some ⟨g13, 0, none⟩) (ts3 ++ [endT la]).length k14) (ts3 ++ [endT la]).length (cellsT (ts3 ++ [endT la]))] (by kernel_rfl)
        refine region_done hK [(5, .slice (some ⟨g13, 0, none⟩) (ts3 ++ [endT la]).length k14), (6, .pointer (some ⟨b16, 0, none⟩)), (22, .bool false), (14, .bool false), (4, .bool false), (0, Str la), (1, Str lb)] ⟨rfl, rfl, rfl, rfl, rfl, rfl, rfl, trivial⟩ fun a hK => ?_
        refine wp_seq ?_
        refine region_go (lst := [0, 1, 2, 3, 4, 5, 6, 7]) (by kernel_rfl) ?_
        refine stepM hK 29 1 (by kernel_rfl) (.inl rfl) rfl fun a hK => ?_
        rcases hx17 : lexL 0 lb with p17 | ts17
        · refine stepRet hK hM 30 #[Str lb] (.tuple #[.slice none 0 0, .agg #[.int .i64 4, .int .i64 ((p17 : Nat) : Int)]]) (by kernel_rfl) (run_callE en_lex_All rfl rfl (by kernel_rfl)) (All_bad (lex_All lb _ (hE.on hM.below) (by first | omega | decide | (simp; omega))) (by first | omega | (simp; omega)) hx17) fun a w hK hM => ?_
          refine stepM hK 28 30 (by kernel_rfl) (.inl rfl) rfl fun a hK => ?_
          refine stepP hK 31 (.slice none 0 0) (by kernel_rfl) (by kernel_rfl) fun a hK => ?_
          refine stepP hK 32 (.agg #[.int .i64 4, .int .i64 ((p17 : Nat) : Int)]) (by kernel_rfl) (by kernel_rfl) fun a hK => ?_
          refine stepAlloc hK hM 8 24 [.int .i64 0, .int .i64 0] (fun b => .pointer (some ⟨b, 0, none⟩)) (by kernel_rfl) (by kernel_rfl) fun b18 a w hK hM => ?_
          refine stepM hK 7 31 (by kernel_rfl) (.inr rfl) rfl fun a hK => ?_
          refine stepStore hK hM 0 [.int .i64 4, .int .i64 ((p17 : Nat) : Int)] (by kernel_rfl) rfl rfl rfl rfl (by kernel_rfl) fun w hM => ?_
          replace hM := hM.to [.row b18 24 [.int .i64 4, .int .i64 ((p17 : Nat) : Int)], .row b16 24 [.int .i64 0, .int .i64 0], .own 35 4 (.slice (some ⟨g13, 0, none⟩) (ts3 ++ [endT la]).length k14) (ts3 ++ [endT la]).length (cellsT (ts3 ++ [endT la]))] (by kernel_rfl)
          refine region_done hK [(7, .slice none 0 0), (8, .pointer (some ⟨b18, 0, none⟩)), (5, .slice (some ⟨g13, 0, none⟩) (ts3 ++ [endT la]).length k14), (6, .pointer (some ⟨b16, 0, none⟩)), (22, .bool false), (14, .bool false), (4, .bool false), (0, Str la), (1, Str lb)] ⟨rfl, rfl, rfl, rfl, rfl, rfl, rfl, rfl, rfl, trivial⟩ fun a hK => ?_
          refine wp_seq ?_
          refine region_go (lst := [0, 1, 2, 3, 4, 5, 6, 7, 8, 9, 10]) (by kernel_rfl) ?_
          refine stepM hK 34 0 (by kernel_rfl) (.inl rfl) rfl fun a hK => ?_
          refine stepP hK 35 (Str (la ++ [10])) (by kernel_rfl) (run_catS rfl rfl rfl (by first | omega | (simp; omega))) fun a hK => ?_
          refine stepM hK 36 1 (by kernel_rfl) (.inl rfl) rfl fun a hK => ?_
          refine stepP hK 37 (Str ((la ++ [10]) ++ lb)) (by kernel_rfl) (run_catS rfl rfl rfl (by first | omega | (simp; omega))) fun a hK => ?_
          have hpb := bad_le hx17
          have hxg := glue_b hx3 hx17
          refine stepRet hK hM 38 #[Str ((la ++ [10]) ++ lb)] (.tuple #[.slice none 0 0, .agg #[.int .i64 4, .int .i64 (((p17 + la.length + 1) : Nat) : Int)]]) (by kernel_rfl) (run_callE en_lex_All rfl rfl (by kernel_rfl)) (All_bad (lex_All ((la ++ [10]) ++ lb) _ (hE.on hM.below) (by first | omega | decide | (simp; omega))) (by first | omega | (simp; omega)) hxg) fun a w hK hM => ?_
          refine stepM hK 33 38 (by kernel_rfl) (.inl rfl) rfl fun a hK => ?_
          refine stepP hK 39 (.slice none 0 0) (by kernel_rfl) (by kernel_rfl) fun a hK => ?_
          refine stepP hK 40 (.agg #[.int .i64 4, .int .i64 (((p17 + la.length + 1) : Nat) : Int)]) (by kernel_rfl) (by kernel_rfl) fun a hK => ?_
          refine stepAlloc hK hM 10 24 [.int .i64 0, .int .i64 0] (fun b => .pointer (some ⟨b, 0, none⟩)) (by kernel_rfl) (by kernel_rfl) fun b19 a w hK hM => ?_
          refine stepM hK 9 39 (by kernel_rfl) (.inr rfl) rfl fun a hK => ?_
          refine stepStore hK hM 0 [.int .i64 4, .int .i64 (((p17 + la.length + 1) : Nat) : Int)] (by kernel_rfl) rfl rfl rfl rfl (by kernel_rfl) fun w hM => ?_
          replace hM := hM.to [.row b19 24 [.int .i64 4, .int .i64 (((p17 + la.length + 1) : Nat) : Int)], .row b18 24 [.int .i64 4, .int .i64 ((p17 : Nat) : Int)], .row b16 24 [.int .i64 0, .int .i64 0], .own 35 4 (.slice (some ⟨g13, 0, none⟩) (ts3 ++ [endT la]).length k14) (ts3 ++ [endT la]).length (cellsT (ts3 ++ [endT la]))] (by kernel_rfl)
          refine region_done hK [(9, .slice none 0 0), (10, .pointer (some ⟨b19, 0, none⟩)), (7, .slice none 0 0), (8, .pointer (some ⟨b18, 0, none⟩)), (5, .slice (some ⟨g13, 0, none⟩) (ts3 ++ [endT la]).length k14), (6, .pointer (some ⟨b16, 0, none⟩)), (22, .bool false), (14, .bool false), (4, .bool false), (0, Str la), (1, Str lb)] ⟨rfl, rfl, rfl, rfl, rfl, rfl, rfl, rfl, rfl, rfl, rfl, trivial⟩ fun a hK => ?_
          refine wp_seq ?_
          refine wp_seq ?_
          refine region_go (lst := [0, 1, 2]) (by kernel_rfl) ?_
          refine stepLoad hK 41 (.agg #[.int .i64 0, .int .i64 0]) (by kernel_rfl) rfl rfl ((hM.row 2 rfl).cells 0 2) (by kernel_rfl) fun a hK => ?_
          refine stepP hK 42 (.agg #[.int .i64 0, .int .i64 0]) (by kernel_rfl) (by kernel_rfl) fun a hK => ?_
          refine stepP hK 43 (.bool false) (by kernel_rfl) (okBool (run_neqFlt rfl rfl rfl) (by decide)) fun a hK => ?_
          refine region_done hK [(43, .bool false), (9, .slice none 0 0), (10, .pointer (some ⟨b19, 0, none⟩)), (7, .slice none 0 0), (8, .pointer (some ⟨b18, 0, none⟩)), (5, .slice (some ⟨g13, 0, none⟩) (ts3 ++ [endT la]).length k14), (6, .pointer (some ⟨b16, 0, none⟩)), (22, .bool false), (14, .bool false), (4, .bool false), (0, Str la), (1, Str lb)] ⟨rfl, rfl, rfl, rfl, rfl, rfl, rfl, rfl, rfl, rfl, rfl, rfl, trivial⟩ fun a hK => ?_
          refine wp_cond_false (hK.get rfl) ?_
          refine wp_skip ?_
          refine wp_seq ?_
          refine wp_seq ?_
          refine region_go (lst := [0, 1, 2]) (by kernel_rfl) ?_
          refine stepLoad hK 52 (.agg #[.int .i64 4, .int .i64 ((p17 : Nat) : Int)]) (by kernel_rfl) rfl rfl ((hM.row 1 rfl).cells 0 2) (by kernel_rfl) fun a hK => ?_
          refine stepP hK 53 (.agg #[.int .i64 0, .int .i64 0]) (by kernel_rfl) (by kernel_rfl) fun a hK => ?_
          refine stepP hK 54 (.bool true) (by kernel_rfl) (okBool (run_neqFlt rfl rfl rfl) (by simp)) fun a hK => ?_
          refine region_done hK [(54, .bool true), (43, .bool false), (9, .slice none 0 0), (10, .pointer (some ⟨b19, 0, none⟩)), (7, .slice none 0 0), (8, .pointer (some ⟨b18, 0, none⟩)), (5, .slice (some ⟨g13, 0, none⟩) (ts3 ++ [endT la]).length k14), (6, .pointer (some ⟨b16, 0, none⟩)), (22, .bool false), (14, .bool false), (4, .bool false), (0, Str la), (1, Str lb)] ⟨rfl, rfl, rfl, rfl, rfl, rfl, rfl, rfl, rfl, rfl, rfl, rfl, rfl, trivial⟩ fun a hK => ?_
          refine wp_cond_true (hK.get rfl) ?_
          refine wp_seq ?_
          refine region_go (lst := [0, 1, 2, 3, 4, 5, 6, 7, 8, 9, 10, 11, 12, 13, 14, 15, 16]) (by kernel_rfl) ?_
          refine stepLoad hK 55 (.agg #[.int .i64 4, .int .i64 (((p17 + la.length + 1) : Nat) : Int)]) (by kernel_rfl) rfl rfl ((hM.row 0 rfl).cells 0 2) (by kernel_rfl) fun a hK => ?_
          refine stepP hK 56 (.pointer (some ⟨b18, 0, none⟩)) (by kernel_rfl) (by kernel_rfl) fun a hK => ?_
          refine stepLoad hK 57 (.int .i64 4) (by kernel_rfl) rfl rfl ((hM.row 1 rfl).cells 0 1) (by kernel_rfl) fun a hK => ?_
          refine stepP hK 58 (.pointer (some ⟨b18, 1, none⟩)) (by kernel_rfl) (by kernel_rfl) fun a hK => ?_
          refine stepLoad hK 59 (.int .i64 ((p17 : Nat) : Int)) (by kernel_rfl) rfl rfl ((hM.row 1 rfl).cells 1 1) (by kernel_rfl) fun a hK => ?_
          refine stepM hK 60 0 (by kernel_rfl) (.inl rfl) rfl fun a hK => ?_
          refine stepP hK 61 (.int .i64 ((la.length : Nat) : Int)) (by kernel_rfl) (by kernel_rfl) fun a hK => ?_
          refine stepP hK 62 (.int .i64 (((p17 + la.length) : Nat) : Int)) (by kernel_rfl) (run_addN (i := p17) (j := la.length) rfl rfl rfl (by omega)) fun a hK => ?_
          refine stepP hK 63 (.int .i64 ((((p17 + la.length) + 1) : Nat) : Int)) (by kernel_rfl) (run_addN (i := (p17 + la.length)) (j := 1) rfl rfl rfl (by omega)) fun a hK => ?_
          refine stepP hK 64 (.agg #[.int .i64 4, .int .i64 ((((p17 + la.length) + 1) : Nat) : Int)]) (by kernel_rfl) (by kernel_rfl) fun a hK => ?_
          refine stepP hK 65 (.bool true) (by kernel_rfl) (okBool (b := (decide ((4 : Int) = 4) && decide (((((p17 + la.length + 1) : Nat) : Int) : Int) = ((((p17 + la.length) + 1) : Nat) : Int)))) (run_eqlFlt rfl rfl rfl) (by simp)) fun a hK => ?_
          refine stepM hK 66 65 (by kernel_rfl) (.inl rfl) rfl fun a hK => ?_
          refine stepM hK 67 9 (by kernel_rfl) (.inl rfl) rfl fun a hK => ?_
          refine stepP hK 68 (.int .i64 0) (by kernel_rfl) (by kernel_rfl) fun a hK => ?_
          refine stepP hK 69 (.bool true) (by kernel_rfl) (by kernel_rfl) fun a hK => ?_
          refine stepP hK 70 (.bool true) (by kernel_rfl) (by kernel_rfl) fun a hK => ?_
          refine stepM hK 4 70 (by kernel_rfl) (.inr rfl) rfl fun a hK => ?_
          refine region_done hK [(4, .bool true), (54, .bool true), (43, .bool false), (9, .slice none 0 0), (10, .pointer (some ⟨b19, 0, none⟩)), (7, .slice none 0 0), (8, .pointer (some ⟨b18, 0, none⟩)), (5, .slice (some ⟨g13, 0, none⟩) (ts3 ++ [endT la]).length k14), (6, .pointer (some ⟨b16, 0, none⟩)), (22, .bool false), (14, .bool false), (0, Str la), (1, Str lb)] ⟨rfl, rfl, rfl, rfl, rfl, rfl, rfl, rfl, rfl, rfl, rfl, rfl, rfl, trivial⟩ fun a hK => ?_
          refine wp_ret ?_
          exact ret_t hK rfl (u := (.bool true)) rfl (⟨rfl, hM.below⟩)
        · refine stepCall hK hM 30 #[Str lb] (by kernel_rfl) (run_callE en_lex_All rfl rfl (by kernel_rfl)) (All_good (lex_All lb _ (hE.on hM.below) (by first | omega | decide | (simp; omega))) (by first | omega | (simp; omega)) hx17) ?_
          rintro ⟨g20, k21⟩ a w - hK hM
          refine stepM hK 28 30 (by kernel_rfl) (.inl rfl) rfl fun a hK => ?_
          refine stepP hK 31 (.slice (some ⟨g20, 0, none⟩) (ts17 ++ [endT lb]).length k21) (by kernel_rfl) (by kernel_rfl) fun a hK => ?_
          refine stepP hK 32 (.agg #[.int .i64 0, .int .i64 0]) (by kernel_rfl) (by kernel_rfl) fun a hK => ?_
          refine stepAlloc hK hM 8 24 [.int .i64 0, .int .i64 0] (fun b => .pointer (some ⟨b, 0, none⟩)) (by kernel_rfl) (by kernel_rfl) fun b23 a w hK hM => ?_
          refine stepM hK 7 31 (by kernel_rfl) (.inr rfl) rfl fun a hK => ?_
          refine stepStore hK hM 0 [.int .i64 0, .int .i64 0] (by kernel_rfl) rfl rfl rfl rfl (by kernel_rfl) fun w hM => ?_
          replace hM := hM.to [.row b23 24 [.int .i64 0, .int .i64 0], .own 35 4 (.slice (some ⟨g20, 0, none⟩) (ts17 ++ [endT lb]).length k21) (ts17 ++ [endT lb]).length (cellsT (ts17 ++ [endT lb])), .row b16 24 [.int .i64 0, .int .i64 0], .own 35 4 (.slice (some ⟨g13, 0, none⟩) (ts3 ++ [endT la]).length k14) (ts3 ++ [endT la]).length (cellsT (ts3 ++ [endT la]))] (by kernel_rfl)
          refine region_done hK [(7, .slice (some ⟨g20, 0, none⟩) (ts17 ++ [endT lb]).length k21), (8, .pointer (some ⟨b23, 0, none⟩)), (5, .slice (some ⟨g13, 0, none⟩) (ts3 ++ [endT la]).length k14), (6, .pointer (some ⟨b16, 0, none⟩)), (22, .bool false), (14, .bool false), (4, .bool false), (0, Str la), (1, Str lb)] ⟨rfl, rfl, rfl, rfl, rfl, rfl, rfl, rfl, rfl, trivial⟩ fun a hK => ?_
          refine wp_seq ?_
          refine region_go (lst := [0, 1, 2, 3, 4, 5, 6, 7, 8, 9, 10]) (by kernel_rfl) ?_
          refine stepM hK 34 0 (by kernel_rfl) (.inl rfl) rfl fun a hK => ?_
          refine stepP hK 35 (Str (la ++ [10])) (by kernel_rfl) (run_catS rfl rfl rfl (by first | omega | (simp; omega))) fun a hK => ?_
          refine stepM hK 36 1 (by kernel_rfl) (.inl rfl) rfl fun a hK => ?_
          refine stepP hK 37 (Str ((la ++ [10]) ++ lb)) (by kernel_rfl) (run_catS rfl rfl rfl (by first | omega | (simp; omega))) fun a hK => ?_
          have hxg := glue_c hx3 hx17
          have hl1 : (ts3 ++ [endT la]).length = ts3.length + 1 := by simp
          have hl2 : (ts17 ++ [endT lb]).length = ts17.length + 1 := by simp
          have hl3 := glue_len (la := la) (lb := lb) ts3 ts17
          have hb1 := ts_le hx3 (by omega)
          have hb2 := ts_le hx17 (by omega)
          refine stepCall hK hM 38 #[Str ((la ++ [10]) ++ lb)] (by kernel_rfl) (run_callE en_lex_All rfl rfl (by kernel_rfl)) (All_good (lex_All ((la ++ [10]) ++ lb) _ (hE.on hM.below) (by first | omega | decide | (simp; omega))) (by first | omega | (simp; omega)) hxg) ?_
          rintro ⟨g24, k25⟩ a w - hK hM
          refine stepM hK 33 38 (by kernel_rfl) (.inl rfl) rfl fun a hK => ?_
          refine stepP hK 39 (.slice (some ⟨g24, 0, none⟩) ((ts3 ++ ts17.map (shT (la.length + 1))) ++ [endT ((la ++ [10]) ++ lb)]).length k25) (by kernel_rfl) (by kernel_rfl) fun a hK => ?_
          refine stepP hK 40 (.agg #[.int .i64 0, .int .i64 0]) (by kernel_rfl) (by kernel_rfl) fun a hK => ?_
          refine stepAlloc hK hM 10 24 [.int .i64 0, .int .i64 0] (fun b => .pointer (some ⟨b, 0, none⟩)) (by kernel_rfl) (by kernel_rfl) fun b27 a w hK hM => ?_
          refine stepM hK 9 39 (by kernel_rfl) (.inr rfl) rfl fun a hK => ?_
          refine stepStore hK hM 0 [.int .i64 0, .int .i64 0] (by kernel_rfl) rfl rfl rfl rfl (by kernel_rfl) fun w hM => ?_
          replace hM := hM.to [.row b27 24 [.int .i64 0, .int .i64 0], .own 35 4 (.slice (some ⟨g24, 0, none⟩) ((ts3 ++ ts17.map (shT (la.length + 1))) ++ [endT ((la ++ [10]) ++ lb)]).length k25) ((ts3 ++ ts17.map (shT (la.length + 1))) ++ [endT ((la ++ [10]) ++ lb)]).length (cellsT ((ts3 ++ ts17.map (shT (la.length + 1))) ++ [endT ((la ++ [10]) ++ lb)])), .row b23 24 [.int .i64 0, .int .i64 0], .own 35 4 (.slice (some ⟨g20, 0, none⟩) (ts17 ++ [endT lb]).length k21) (ts17 ++ [endT lb]).length (cellsT (ts17 ++ [endT lb])), .row b16 24 [.int .i64 0, .int .i64 0], .own 35 4 (.slice (some ⟨g13, 0, none⟩) (ts3 ++ [endT la]).length k14) (ts3 ++ [endT la]).length (cellsT (ts3 ++ [endT la]))] (by kernel_rfl)
          refine region_done hK [(9, .slice (some ⟨g24, 0, none⟩) ((ts3 ++ ts17.map (shT (la.length + 1))) ++ [endT ((la ++ [10]) ++ lb)]).length k25), (10, .pointer (some ⟨b27, 0, none⟩)), (7, .slice (some ⟨g20, 0, none⟩) (ts17 ++ [endT lb]).length k21), (8, .pointer (some ⟨b23, 0, none⟩)), (5, .slice (some ⟨g13, 0, none⟩) (ts3 ++ [endT la]).length k14), (6, .pointer (some ⟨b16, 0, none⟩)), (22, .bool false), (14, .bool false), (4, .bool false), (0, Str la), (1, Str lb)] ⟨rfl, rfl, rfl, rfl, rfl, rfl, rfl, rfl, rfl, rfl, rfl, trivial⟩ fun a hK => ?_
          refine wp_seq ?_
          refine wp_seq ?_
          refine region_go (lst := [0, 1, 2]) (by kernel_rfl) ?_
          refine stepLoad hK 41 (.agg #[.int .i64 0, .int .i64 0]) (by kernel_rfl) rfl rfl ((hM.row 4 rfl).cells 0 2) (by kernel_rfl) fun a hK => ?_
          refine stepP hK 42 (.agg #[.int .i64 0, .int .i64 0]) (by kernel_rfl) (by kernel_rfl) fun a hK => ?_
          refine stepP hK 43 (.bool false) (by kernel_rfl) (okBool (run_neqFlt rfl rfl rfl) (by decide)) fun a hK => ?_
          refine region_done hK [(43, .bool false), (9, .slice (some ⟨g24, 0, none⟩) ((ts3 ++ ts17.map (shT (la.length + 1))) ++ [endT ((la ++ [10]) ++ lb)]).length k25), (10, .pointer (some ⟨b27, 0, none⟩)), (7, .slice (some ⟨g20, 0, none⟩) (ts17 ++ [endT lb]).length k21), (8, .pointer (some ⟨b23, 0, none⟩)), (5, .slice (some ⟨g13, 0, none⟩) (ts3 ++ [endT la]).length k14), (6, .pointer (some ⟨b16, 0, none⟩)), (22, .bool false), (14, .bool false), (4, .bool false), (0, Str la), (1, Str lb)] ⟨rfl, rfl, rfl, rfl, rfl, rfl, rfl, rfl, rfl, rfl, rfl, rfl, trivial⟩ fun a hK => ?_
          refine wp_cond_false (hK.get rfl) ?_
          refine wp_skip ?_
          refine wp_seq ?_
          refine wp_seq ?_
          refine region_go (lst := [0, 1, 2]) (by kernel_rfl) ?_
          refine stepLoad hK 52 (.agg #[.int .i64 0, .int .i64 0]) (by kernel_rfl) rfl rfl ((hM.row 2 rfl).cells 0 2) (by kernel_rfl) fun a hK => ?_
          refine stepP hK 53 (.agg #[.int .i64 0, .int .i64 0]) (by kernel_rfl) (by kernel_rfl) fun a hK => ?_
          refine stepP hK 54 (.bool false) (by kernel_rfl) (okBool (run_neqFlt rfl rfl rfl) (by decide)) fun a hK => ?_
          refine region_done hK [(54, .bool false), (43, .bool false), (9, .slice (some ⟨g24, 0, none⟩) ((ts3 ++ ts17.map (shT (la.length + 1))) ++ [endT ((la ++ [10]) ++ lb)]).length k25), (10, .pointer (some ⟨b27, 0, none⟩)), (7, .slice (some ⟨g20, 0, none⟩) (ts17 ++ [endT lb]).length k21), (8, .pointer (some ⟨b23, 0, none⟩)), (5, .slice (some ⟨g13, 0, none⟩) (ts3 ++ [endT la]).length k14), (6, .pointer (some ⟨b16, 0, none⟩)), (22, .bool false), (14, .bool false), (4, .bool false), (0, Str la), (1, Str lb)] ⟨rfl, rfl, rfl, rfl, rfl, rfl, rfl, rfl, rfl, rfl, rfl, rfl, rfl, trivial⟩ fun a hK => ?_
          refine wp_cond_false (hK.get rfl) ?_
          refine wp_skip ?_
          refine wp_seq ?_
          refine wp_seq ?_
          refine region_go (lst := [0, 1, 2, 3, 4, 5, 6, 7, 8, 9, 10, 11, 12, 13]) (by kernel_rfl) ?_
          refine stepLoad hK 71 (.agg #[.int .i64 0, .int .i64 0]) (by kernel_rfl) rfl rfl ((hM.row 0 rfl).cells 0 2) (by kernel_rfl) fun a hK => ?_
          refine stepP hK 72 (.agg #[.int .i64 0, .int .i64 0]) (by kernel_rfl) (by kernel_rfl) fun a hK => ?_
          refine stepP hK 73 (.bool false) (by kernel_rfl) (okBool (run_neqFlt rfl rfl rfl) (by decide)) fun a hK => ?_
          refine stepM hK 74 73 (by kernel_rfl) (.inl rfl) rfl fun a hK => ?_
          refine stepM hK 75 9 (by kernel_rfl) (.inl rfl) rfl fun a hK => ?_
          refine stepP hK 76 (.int .i64 ((((ts3 ++ ts17.map (shT (la.length + 1))) ++ [endT ((la ++ [10]) ++ lb)]).length : Nat) : Int)) (by kernel_rfl) (by kernel_rfl) fun a hK => ?_
          refine stepM hK 77 5 (by kernel_rfl) (.inl rfl) rfl fun a hK => ?_
          refine stepP hK 78 (.int .i64 (((ts3 ++ [endT la]).length : Nat) : Int)) (by kernel_rfl) (by kernel_rfl) fun a hK => ?_
          refine stepP hK 79 (.int .i64 ((((ts3 ++ [endT la]).length - 1) : Nat) : Int)) (by kernel_rfl) (run_subN (i := (ts3 ++ [endT la]).length) (j := 1) rfl rfl rfl (by omega) (by omega)) fun a hK => ?_
          refine stepM hK 80 7 (by kernel_rfl) (.inl rfl) rfl fun a hK => ?_
          refine stepP hK 81 (.int .i64 (((ts17 ++ [endT lb]).length : Nat) : Int)) (by kernel_rfl) (by kernel_rfl) fun a hK => ?_
          refine stepP hK 82 (.int .i64 (((((ts3 ++ [endT la]).length - 1) + (ts17 ++ [endT lb]).length) : Nat) : Int)) (by kernel_rfl) (run_addN (i := ((ts3 ++ [endT la]).length - 1)) (j := (ts17 ++ [endT lb]).length) rfl rfl rfl (by omega)) fun a hK => ?_
          refine stepP hK 83 (.bool false) (by kernel_rfl) (okBool (b := (!(decide ((((((ts3 ++ ts17.map (shT (la.length + 1))) ++ [endT ((la ++ [10]) ++ lb)]).length : Nat) : Int) : Int) = (((((ts3 ++ [endT la]).length - 1) + (ts17 ++ [endT lb]).length) : Nat) : Int))))) (by kernel_rfl) (by rw [Bool.not_eq_false', decide_eq_true_iff]; omega)) fun a hK => ?_
          refine stepP hK 84 (.bool false) (by kernel_rfl) (by kernel_rfl) fun a hK => ?_
          refine region_done hK [(84, .bool false), (54, .bool false), (43, .bool false), (9, .slice (some ⟨g24, 0, none⟩) ((ts3 ++ ts17.map (shT (la.length + 1))) ++ [endT ((la ++ [10]) ++ lb)]).length k25), (10, .pointer (some ⟨b27, 0, none⟩)), (7, .slice (some ⟨g20, 0, none⟩) (ts17 ++ [endT lb]).length k21), (8, .pointer (some ⟨b23, 0, none⟩)), (5, .slice (some ⟨g13, 0, none⟩) (ts3 ++ [endT la]).length k14), (6, .pointer (some ⟨b16, 0, none⟩)), (22, .bool false), (14, .bool false), (4, .bool false), (0, Str la), (1, Str lb)] ⟨rfl, rfl, rfl, rfl, rfl, rfl, rfl, rfl, rfl, rfl, rfl, rfl, rfl, rfl, trivial⟩ fun a hK => ?_
          refine wp_cond_false (hK.get rfl) ?_
          refine wp_skip ?_
          refine wp_seq ?_
          refine wp_seq ?_
          refine region_go (lst := [0]) (by kernel_rfl) ?_
          refine stepP hK 11 (.int .i64 0) (by kernel_rfl) (by kernel_rfl) fun a hK => ?_
          refine region_done hK [(11, .int .i64 0), (84, .bool false), (54, .bool false), (43, .bool false), (9, .slice (some ⟨g24, 0, none⟩) ((ts3 ++ ts17.map (shT (la.length + 1))) ++ [endT ((la ++ [10]) ++ lb)]).length k25), (10, .pointer (some ⟨b27, 0, none⟩)), (7, .slice (some ⟨g20, 0, none⟩) (ts17 ++ [endT lb]).length k21), (8, .pointer (some ⟨b23, 0, none⟩)), (5, .slice (some ⟨g13, 0, none⟩) (ts3 ++ [endT la]).length k14), (6, .pointer (some ⟨b16, 0, none⟩)), (22, .bool false), (14, .bool false), (4, .bool false), (0, Str la), (1, Str lb)] ⟨rfl, rfl, rfl, rfl, rfl, rfl, rfl, rfl, rfl, rfl, rfl, rfl, rfl, rfl, rfl, trivial⟩ fun a hK => ?_
          refine wp_block ?_
          refine wp_loopX (fun x : Nat => [(84, .bool false), (54, .bool false), (43, .bool false), (9, .slice (some ⟨g24, 0, none⟩) ((ts3 ++ ts17.map (shT (la.length + 1))) ++ [endT ((la ++ [10]) ++ lb)]).length k25), (10, .pointer (some ⟨b27, 0, none⟩)), (7, .slice (some ⟨g20, 0, none⟩) (ts17 ++ [endT lb]).length k21), (8, .pointer (some ⟨b23, 0, none⟩)), (5, .slice (some ⟨g13, 0, none⟩) (ts3 ++ [endT la]).length k14), (6, .pointer (some ⟨b16, 0, none⟩)), (22, .bool false), (14, .bool false), (4, .bool false), (0, Str la), (1, Str lb), (11, .int .i64 ((x : Nat) : Int))]) (fun x : Nat => [.row b27 24 [.int .i64 0, .int .i64 0], .own 35 4 (.slice (some ⟨g24, 0, none⟩) ((ts3 ++ ts17.map (shT (la.length + 1))) ++ [endT ((la ++ [10]) ++ lb)]).length k25) ((ts3 ++ ts17.map (shT (la.length + 1))) ++ [endT ((la ++ [10]) ++ lb)]).length (cellsT ((ts3 ++ ts17.map (shT (la.length + 1))) ++ [endT ((la ++ [10]) ++ lb)])), .row b23 24 [.int .i64 0, .int .i64 0], .own 35 4 (.slice (some ⟨g20, 0, none⟩) (ts17 ++ [endT lb]).length k21) (ts17 ++ [endT lb]).length (cellsT (ts17 ++ [endT lb])), .row b16 24 [.int .i64 0, .int .i64 0], .own 35 4 (.slice (some ⟨g13, 0, none⟩) (ts3 ++ [endT la]).length k14) (ts3 ++ [endT la]).length (cellsT (ts3 ++ [endT la]))]) (fun x : Nat => x ≤ ((ts3 ++ ts17.map (shT (la.length + 1))) ++ [endT ((la ++ [10]) ++ lb)]).length) (fun x : Nat => ((ts3 ++ ts17.map (shT (la.length + 1))) ++ [endT ((la ++ [10]) ++ lb)]).length - x) 0 (hK.sub ⟨rfl, rfl, rfl, rfl, rfl, rfl, rfl, rfl, rfl, rfl, rfl, rfl, rfl, rfl, rfl, trivial⟩) hM (Nat.zero_le _) ?_
          rintro i a w hK hM hR
          replace hK : Knows a 126 [(84, .bool false), (54, .bool false), (43, .bool false), (9, .slice (some ⟨g24, 0, none⟩) ((ts3 ++ ts17.map (shT (la.length + 1))) ++ [endT ((la ++ [10]) ++ lb)]).length k25), (10, .pointer (some ⟨b27, 0, none⟩)), (7, .slice (some ⟨g20, 0, none⟩) (ts17 ++ [endT lb]).length k21), (8, .pointer (some ⟨b23, 0, none⟩)), (5, .slice (some ⟨g13, 0, none⟩) (ts3 ++ [endT la]).length k14), (6, .pointer (some ⟨b16, 0, none⟩)), (22, .bool false), (14, .bool false), (4, .bool false), (0, Str la), (1, Str lb), (11, .int .i64 ((i : Nat) : Int))] := hK
          replace hM : Mem w0 w [.row b27 24 [.int .i64 0, .int .i64 0], .own 35 4 (.slice (some ⟨g24, 0, none⟩) ((ts3 ++ ts17.map (shT (la.length + 1))) ++ [endT ((la ++ [10]) ++ lb)]).length k25) ((ts3 ++ ts17.map (shT (la.length + 1))) ++ [endT ((la ++ [10]) ++ lb)]).length (cellsT ((ts3 ++ ts17.map (shT (la.length + 1))) ++ [endT ((la ++ [10]) ++ lb)])), .row b23 24 [.int .i64 0, .int .i64 0], .own 35 4 (.slice (some ⟨g20, 0, none⟩) (ts17 ++ [endT lb]).length k21) (ts17 ++ [endT lb]).length (cellsT (ts17 ++ [endT lb])), .row b16 24 [.int .i64 0, .int .i64 0], .own 35 4 (.slice (some ⟨g13, 0, none⟩) (ts3 ++ [endT la]).length k14) (ts3 ++ [endT la]).length (cellsT (ts3 ++ [endT la]))] := hM
          replace hR : i ≤ ((ts3 ++ ts17.map (shT (la.length + 1))) ++ [endT ((la ++ [10]) ++ lb)]).length := hR
          refine wp_seq ?_
          refine wp_seq ?_
          refine region_go (lst := [0, 1, 2, 3]) (by kernel_rfl) ?_
          refine stepM hK 85 11 (by kernel_rfl) (.inl rfl) rfl fun a hK => ?_
          refine stepM hK 86 9 (by kernel_rfl) (.inl rfl) rfl fun a hK => ?_
          refine stepP hK 87 (.int .i64 ((((ts3 ++ ts17.map (shT (la.length + 1))) ++ [endT ((la ++ [10]) ++ lb)]).length : Nat) : Int)) (by kernel_rfl) (by kernel_rfl) fun a hK => ?_
          by_cases h28 : (((i : Nat) : Int) : Int) < ((((ts3 ++ ts17.map (shT (la.length + 1))) ++ [endT ((la ++ [10]) ++ lb)]).length : Nat) : Int)
          · refine stepP hK 88 (.bool true) (by kernel_rfl) (okBool (b := (decide ((((i : Nat) : Int) : Int) < ((((ts3 ++ ts17.map (shT (la.length + 1))) ++ [endT ((la ++ [10]) ++ lb)]).length : Nat) : Int)))) (by kernel_rfl) (decide_eq_true h28)) fun a hK => ?_
            refine region_done hK [(88, .bool true), (84, .bool false), (54, .bool false), (43, .bool false), (9, .slice (some ⟨g24, 0, none⟩) ((ts3 ++ ts17.map (shT (la.length + 1))) ++ [endT ((la ++ [10]) ++ lb)]).length k25), (10, .pointer (some ⟨b27, 0, none⟩)), (7, .slice (some ⟨g20, 0, none⟩) (ts17 ++ [endT lb]).length k21), (8, .pointer (some ⟨b23, 0, none⟩)), (5, .slice (some ⟨g13, 0, none⟩) (ts3 ++ [endT la]).length k14), (6, .pointer (some ⟨b16, 0, none⟩)), (22, .bool false), (14, .bool false), (4, .bool false), (0, Str la), (1, Str lb), (11, .int .i64 ((i : Nat) : Int))] ⟨rfl, rfl, rfl, rfl, rfl, rfl, rfl, rfl, rfl, rfl, rfl, rfl, rfl, rfl, rfl, rfl, trivial⟩ fun a hK => ?_
            refine wp_cond_true (hK.get rfl) ?_
            refine wp_skip ?_
            refine wp_seq ?_
            refine wp_block ?_
            refine wp_seq ?_
            refine wp_seq ?_
            refine region_go (lst := [0, 1, 2, 3, 4]) (by kernel_rfl) ?_
            refine stepM hK 91 11 (by kernel_rfl) (.inl rfl) rfl fun a hK => ?_
            refine stepM hK 92 5 (by kernel_rfl) (.inl rfl) rfl fun a hK => ?_
            refine stepP hK 93 (.int .i64 (((ts3 ++ [endT la]).length : Nat) : Int)) (by kernel_rfl) (by kernel_rfl) fun a hK => ?_
            refine stepP hK 94 (.int .i64 ((((ts3 ++ [endT la]).length - 1) : Nat) : Int)) (by kernel_rfl) (run_subN (i := (ts3 ++ [endT la]).length) (j := 1) rfl rfl rfl (by omega) (by omega)) fun a hK => ?_
            by_cases h29 : (((i : Nat) : Int) : Int) < ((((ts3 ++ [endT la]).length - 1) : Nat) : Int)
            · refine stepP hK 95 (.bool true) (by kernel_rfl) (okBool (b := (decide ((((i : Nat) : Int) : Int) < ((((ts3 ++ [endT la]).length - 1) : Nat) : Int)))) (by kernel_rfl) (decide_eq_true h29)) fun a hK => ?_
              refine region_done hK [(95, .bool true), (88, .bool true), (84, .bool false), (54, .bool false), (43, .bool false), (9, .slice (some ⟨g24, 0, none⟩) ((ts3 ++ ts17.map (shT (la.length + 1))) ++ [endT ((la ++ [10]) ++ lb)]).length k25), (10, .pointer (some ⟨b27, 0, none⟩)), (7, .slice (some ⟨g20, 0, none⟩) (ts17 ++ [endT lb]).length k21), (8, .pointer (some ⟨b23, 0, none⟩)), (5, .slice (some ⟨g13, 0, none⟩) (ts3 ++ [endT la]).length k14), (6, .pointer (some ⟨b16, 0, none⟩)), (22, .bool false), (14, .bool false), (4, .bool false), (0, Str la), (1, Str lb), (11, .int .i64 ((i : Nat) : Int))] ⟨rfl, rfl, rfl, rfl, rfl, rfl, rfl, rfl, rfl, rfl, rfl, rfl, rfl, rfl, rfl, rfl, rfl, trivial⟩ fun a hK => ?_
              refine wp_cond_true (hK.get rfl) ?_
              refine wp_seq ?_
              refine wp_seq ?_
              obtain ⟨t30, ht30⟩ : ∃ t, ((ts3 ++ ts17.map (shT (la.length + 1))) ++ [endT ((la ++ [10]) ++ lb)])[(i : Nat)]? = some t := ⟨_, List.getElem?_eq_getElem (by omega)⟩
              obtain ⟨t31, ht31⟩ : ∃ t, (ts3 ++ [endT la])[(i : Nat)]? = some t := ⟨_, List.getElem?_eq_getElem (by omega)⟩
              refine region_any (F := fun w => Mem w0 w [.row b27 24 [.int .i64 0, .int .i64 0], .own 35 4 (.slice (some ⟨g24, 0, none⟩) ((ts3 ++ ts17.map (shT (la.length + 1))) ++ [endT ((la ++ [10]) ++ lb)]).length k25) ((ts3 ++ ts17.map (shT (la.length + 1))) ++ [endT ((la ++ [10]) ++ lb)]).length (cellsT ((ts3 ++ ts17.map (shT (la.length + 1))) ++ [endT ((la ++ [10]) ++ lb)])), .row b23 24 [.int .i64 0, .int .i64 0], .own 35 4 (.slice (some ⟨g20, 0, none⟩) (ts17 ++ [endT lb]).length k21) (ts17 ++ [endT lb]).length (cellsT (ts17 ++ [endT lb])), .row b16 24 [.int .i64 0, .int .i64 0], .own 35 4 (.slice (some ⟨g13, 0, none⟩) (ts3 ++ [endT la]).length k14) (ts3 ++ [endT la]).length (cellsT (ts3 ++ [endT la]))]) hK [some (.slice (some ⟨g24, 0, none⟩) ((ts3 ++ ts17.map (shT (la.length + 1))) ++ [endT ((la ++ [10]) ++ lb)]).length k25), some (.int .i64 ((i : Nat) : Int)), some (.pointer (some ⟨g24, i * 4, none⟩)), some (.agg #[.int .i64 t30.1.1, Str t30.1.2.1, .int .i64 t30.1.2.2, .int .i64 ((t30.2 : Nat) : Int)]), some (.slice (some ⟨g13, 0, none⟩) (ts3 ++ [endT la]).length k14), some (.int .i64 ((i : Nat) : Int)), some (.pointer (some ⟨g13, i * 4, none⟩)), some (.agg #[.int .i64 t31.1.1, Str t31.1.2.1, .int .i64 t31.1.2.2, .int .i64 ((t31.2 : Nat) : Int)]), some (.bool false)] 9 (fun _ _ hb hm => hm.go hb) hM (by kernel_rfl) (by kernel_rfl) ⟨⟨⟨⟨⟨⟨⟨⟨⟨trivial, ?_⟩, ?_⟩, ?_⟩, ?_⟩, ?_⟩, ?_⟩, ?_⟩, ?_⟩, ?_⟩ [(104, .bool false), (95, .bool true), (88, .bool true), (84, .bool false), (54, .bool false), (43, .bool false), (9, .slice (some ⟨g24, 0, none⟩) ((ts3 ++ ts17.map (shT (la.length + 1))) ++ [endT ((la ++ [10]) ++ lb)]).length k25), (10, .pointer (some ⟨b27, 0, none⟩)), (7, .slice (some ⟨g20, 0, none⟩) (ts17 ++ [endT lb]).length k21), (8, .pointer (some ⟨b23, 0, none⟩)), (5, .slice (some ⟨g13, 0, none⟩) (ts3 ++ [endT la]).length k14), (6, .pointer (some ⟨b16, 0, none⟩)), (22, .bool false), (14, .bool false), (4, .bool false), (0, Str la), (1, Str lb), (11, .int .i64 ((i : Nat) : Int))] (by kernel_rfl) fun a w hK hM => ?_
              · exact .val (.slice (some ⟨g24, 0, none⟩) ((ts3 ++ ts17.map (shT (la.length + 1))) ++ [endT ((la ++ [10]) ++ lb)]).length k25) rfl (by kernel_rfl) (fun w hM => (by kernel_rfl))
              · exact .val (.int .i64 ((i : Nat) : Int)) rfl (by kernel_rfl) (fun w hM => (by kernel_rfl))
              · exact .val (.pointer (some ⟨g24, i * 4, none⟩)) rfl (by kernel_rfl) (fun w hM => (run_ixG (k := i) (s := 4) rfl rfl rfl Tryd.underlying29 (by kernel_rfl) (List.getElem?_eq_some_iff.1 ht30).1))
              · exact .val (.agg #[.int .i64 t30.1.1, Str t30.1.2.1, .int .i64 t30.1.2.2, .int .i64 ((t30.2 : Nat) : Int)]) rfl (by kernel_rfl) (fun w hM => run_loadE rfl rfl (((cells_drop _ i t30 ht30) ▸ hM.ownCells 1 rfl (i * 4) 4 : CellsAt w ⟨g24, i * 4, none⟩ (c4 (tk4 t30)))) (by kernel_rfl))
              · exact .val (.slice (some ⟨g13, 0, none⟩) (ts3 ++ [endT la]).length k14) rfl (by kernel_rfl) (fun w hM => (by kernel_rfl))
              · exact .val (.int .i64 ((i : Nat) : Int)) rfl (by kernel_rfl) (fun w hM => (by kernel_rfl))
              · exact .val (.pointer (some ⟨g13, i * 4, none⟩)) rfl (by kernel_rfl) (fun w hM => (run_ixG (k := i) (s := 4) rfl rfl rfl Tryd.underlying29 (by kernel_rfl) (List.getElem?_eq_some_iff.1 ht31).1))
              · exact .val (.agg #[.int .i64 t31.1.1, Str t31.1.2.1, .int .i64 t31.1.2.2, .int .i64 ((t31.2 : Nat) : Int)]) rfl (by kernel_rfl) (fun w hM => run_loadE rfl rfl (((cells_drop _ i t31 ht31) ▸ hM.ownCells 5 rfl (i * 4) 4 : CellsAt w ⟨g13, i * 4, none⟩ (c4 (tk4 t31)))) (by kernel_rfl))
              · exact .val (.bool false) rfl (by kernel_rfl) (fun w hM => (okBool (b := (!(decide ((t30.1.1 : Int) = t31.1.1) && decide (t30.1.2.1 = t31.1.2.1) && decide ((t30.1.2.2 : Int) = t31.1.2.2) && decide ((((t30.2 : Nat) : Int) : Int) = ((t31.2 : Nat) : Int))))) (run_neqTok rfl rfl rfl) (by rw [glue_lt (by omega) ht30 ht31]; simp)))
              refine wp_cond_false (hK.get rfl) ?_
              refine wp_skip ?_
              refine wp_exit (exit_then (exit_here 1 ?_))
              refine region_go (lst := [0, 1, 2]) (by kernel_rfl) ?_
              refine stepM hK 89 11 (by kernel_rfl) (.inl rfl) rfl fun a hK => ?_
              refine stepP hK 90 (.int .i64 (((i + 1) : Nat) : Int)) (by kernel_rfl) (run_addN (i := i) (j := 1) rfl rfl rfl (by omega)) fun a hK => ?_
              refine stepM hK 11 90 (by kernel_rfl) (.inr rfl) rfl fun a hK => ?_
              refine region_done hK [(11, .int .i64 (((i + 1) : Nat) : Int)), (104, .bool false), (95, .bool true), (88, .bool true), (84, .bool false), (54, .bool false), (43, .bool false), (9, .slice (some ⟨g24, 0, none⟩) ((ts3 ++ ts17.map (shT (la.length + 1))) ++ [endT ((la ++ [10]) ++ lb)]).length k25), (10, .pointer (some ⟨b27, 0, none⟩)), (7, .slice (some ⟨g20, 0, none⟩) (ts17 ++ [endT lb]).length k21), (8, .pointer (some ⟨b23, 0, none⟩)), (5, .slice (some ⟨g13, 0, none⟩) (ts3 ++ [endT la]).length k14), (6, .pointer (some ⟨b16, 0, none⟩)), (22, .bool false), (14, .bool false), (4, .bool false), (0, Str la), (1, Str lb)] ⟨rfl, rfl, rfl, rfl, rfl, rfl, rfl, rfl, rfl, rfl, rfl, rfl, rfl, rfl, rfl, rfl, rfl, rfl, trivial⟩ fun a hK => ?_
              have hRn : (i + 1) ≤ ((ts3 ++ ts17.map (shT (la.length + 1))) ++ [endT ((la ++ [10]) ++ lb)]).length := by omega
              have hmn : ((ts3 ++ ts17.map (shT (la.length + 1))) ++ [endT ((la ++ [10]) ++ lb)]).length - (i + 1) < ((ts3 ++ ts17.map (shT (la.length + 1))) ++ [endT ((la ++ [10]) ++ lb)]).length - i := by omega
              exact ⟨i + 1, hK.sub ⟨rfl, rfl, rfl, rfl, rfl, rfl, rfl, rfl, rfl, rfl, rfl, rfl, rfl, rfl, rfl, trivial⟩, hM, hRn, hmn⟩
            · refine stepP hK 95 (.bool false) (by kernel_rfl) (okBool (b := (decide ((((i : Nat) : Int) : Int) < ((((ts3 ++ [endT la]).length - 1) : Nat) : Int)))) (by kernel_rfl) (decide_eq_false h29)) fun a hK => ?_
              refine region_done hK [(95, .bool false), (88, .bool true), (84, .bool false), (54, .bool false), (43, .bool false), (9, .slice (some ⟨g24, 0, none⟩) ((ts3 ++ ts17.map (shT (la.length + 1))) ++ [endT ((la ++ [10]) ++ lb)]).length k25), (10, .pointer (some ⟨b27, 0, none⟩)), (7, .slice (some ⟨g20, 0, none⟩) (ts17 ++ [endT lb]).length k21), (8, .pointer (some ⟨b23, 0, none⟩)), (5, .slice (some ⟨g13, 0, none⟩) (ts3 ++ [endT la]).length k14), (6, .pointer (some ⟨b16, 0, none⟩)), (22, .bool false), (14, .bool false), (4, .bool false), (0, Str la), (1, Str lb), (11, .int .i64 ((i : Nat) : Int))] ⟨rfl, rfl, rfl, rfl, rfl, rfl, rfl, rfl, rfl, rfl, rfl, rfl, rfl, rfl, rfl, rfl, rfl, trivial⟩ fun a hK => ?_
              refine wp_cond_false (hK.get rfl) ?_
              refine wp_skip ?_
              refine wp_seq ?_
              refine region_go (lst := [0, 1, 2, 3, 4, 5, 6, 7, 8, 9]) (by kernel_rfl) ?_
              refine stepM hK 105 7 (by kernel_rfl) (.inl rfl) rfl fun a hK => ?_
              refine stepM hK 106 11 (by kernel_rfl) (.inl rfl) rfl fun a hK => ?_
              refine stepM hK 107 5 (by kernel_rfl) (.inl rfl) rfl fun a hK => ?_
              refine stepP hK 108 (.int .i64 (((ts3 ++ [endT la]).length : Nat) : Int)) (by kernel_rfl) (by kernel_rfl) fun a hK => ?_
              refine stepP hK 109 (.int .i64 (((i : Nat) : Int) - (((ts3 ++ [endT la]).length : Nat) : Int))) (by kernel_rfl) (run_subZ rfl rfl rfl (by omega) (by omega)) fun a hK => ?_
              refine stepP hK 110 (.int .i64 (((i - ts3.length) : Nat) : Int)) (by kernel_rfl) (okVal (run_addZ rfl rfl rfl (by omega) (by omega)) (congrArg (Value.int .i64) (by omega))) fun a hK => ?_
              obtain ⟨t32, ht32⟩ : ∃ t, (ts17 ++ [endT lb])[((i - ts3.length) : Nat)]? = some t := ⟨_, List.getElem?_eq_getElem (by omega)⟩
              refine stepP hK 111 (.pointer (some ⟨g20, (i - ts3.length) * 4, none⟩)) (by kernel_rfl) (run_ixG (k := (i - ts3.length)) (s := 4) rfl rfl rfl Tryd.underlying29 (by kernel_rfl) (List.getElem?_eq_some_iff.1 ht32).1) fun a hK => ?_
              refine stepLoad hK 112 (.agg #[.int .i64 t32.1.1, Str t32.1.2.1, .int .i64 t32.1.2.2, .int .i64 ((t32.2 : Nat) : Int)]) (by kernel_rfl) rfl rfl (((cells_drop _ (i - ts3.length) t32 ht32) ▸ hM.ownCells 3 rfl ((i - ts3.length) * 4) 4 : CellsAt w ⟨g20, (i - ts3.length) * 4, none⟩ (c4 (tk4 t32)))) (by kernel_rfl) fun a hK => ?_
              refine stepAlloc hK hM 12 35 [.int .i64 0, Str [], .int .i64 0, .int .i64 0] (fun b => .pointer (some ⟨b, 0, none⟩)) (by kernel_rfl) (by kernel_rfl) fun b33 a w hK hM => ?_
              refine stepStore hK hM 0 [.int .i64 t32.1.1, Str t32.1.2.1, .int .i64 t32.1.2.2, .int .i64 ((t32.2 : Nat) : Int)] (by kernel_rfl) rfl rfl rfl rfl (by kernel_rfl) fun w hM => ?_
              replace hM := hM.to [.row b33 35 [.int .i64 t32.1.1, Str t32.1.2.1, .int .i64 t32.1.2.2, .int .i64 ((t32.2 : Nat) : Int)], .row b27 24 [.int .i64 0, .int .i64 0], .own 35 4 (.slice (some ⟨g24, 0, none⟩) ((ts3 ++ ts17.map (shT (la.length + 1))) ++ [endT ((la ++ [10]) ++ lb)]).length k25) ((ts3 ++ ts17.map (shT (la.length + 1))) ++ [endT ((la ++ [10]) ++ lb)]).length (cellsT ((ts3 ++ ts17.map (shT (la.length + 1))) ++ [endT ((la ++ [10]) ++ lb)])), .row b23 24 [.int .i64 0, .int .i64 0], .own 35 4 (.slice (some ⟨g20, 0, none⟩) (ts17 ++ [endT lb]).length k21) (ts17 ++ [endT lb]).length (cellsT (ts17 ++ [endT lb])), .row b16 24 [.int .i64 0, .int .i64 0], .own 35 4 (.slice (some ⟨g13, 0, none⟩) (ts3 ++ [endT la]).length k14) (ts3 ++ [endT la]).length (cellsT (ts3 ++ [endT la]))] (by kernel_rfl)
              refine region_done hK [(12, .pointer (some ⟨b33, 0, none⟩)), (95, .bool false), (88, .bool true), (84, .bool false), (54, .bool false), (43, .bool false), (9, .slice (some ⟨g24, 0, none⟩) ((ts3 ++ ts17.map (shT (la.length + 1))) ++ [endT ((la ++ [10]) ++ lb)]).length k25), (10, .pointer (some ⟨b27, 0, none⟩)), (7, .slice (some ⟨g20, 0, none⟩) (ts17 ++ [endT lb]).length k21), (8, .pointer (some ⟨b23, 0, none⟩)), (5, .slice (some ⟨g13, 0, none⟩) (ts3 ++ [endT la]).length k14), (6, .pointer (some ⟨b16, 0, none⟩)), (22, .bool false), (14, .bool false), (4, .bool false), (0, Str la), (1, Str lb), (11, .int .i64 ((i : Nat) : Int))] ⟨rfl, rfl, rfl, rfl, rfl, rfl, rfl, rfl, rfl, rfl, rfl, rfl, rfl, rfl, rfl, rfl, rfl, rfl, trivial⟩ fun a hK => ?_
              refine wp_seq ?_
              refine region_go (lst := [0, 1, 2, 3, 4, 5, 6, 7]) (by kernel_rfl) ?_
              refine stepP hK 113 (.pointer (some ⟨b33, 3, none⟩)) (by kernel_rfl) (by kernel_rfl) fun a hK => ?_
              refine stepLoad hK 114 (.int .i64 ((t32.2 : Nat) : Int)) (by kernel_rfl) rfl rfl ((hM.row 0 rfl).cells 3 1) (by kernel_rfl) fun a hK => ?_
              refine stepM hK 115 0 (by kernel_rfl) (.inl rfl) rfl fun a hK => ?_
              refine stepP hK 116 (.int .i64 ((la.length : Nat) : Int)) (by kernel_rfl) (by kernel_rfl) fun a hK => ?_
              refine stepP hK 117 (.int .i64 (((t32.2 + la.length) : Nat) : Int)) (by kernel_rfl) (run_addN (i := t32.2) (j := la.length) rfl rfl rfl (by have hat := at_le hx17 ht32; omega)) fun a hK => ?_
              refine stepP hK 118 (.int .i64 ((((t32.2 + la.length) + 1) : Nat) : Int)) (by kernel_rfl) (run_addN (i := (t32.2 + la.length)) (j := 1) rfl rfl rfl (by have hat := at_le hx17 ht32; omega)) fun a hK => ?_
              refine stepP hK 119 (.pointer (some ⟨b33, 3, none⟩)) (by kernel_rfl) (by kernel_rfl) fun a hK => ?_
              refine stepStore hK hM 0 [.int .i64 t32.1.1, Str t32.1.2.1, .int .i64 t32.1.2.2, .int .i64 ((((t32.2 + la.length) + 1) : Nat) : Int)] (by kernel_rfl) rfl rfl rfl rfl (by kernel_rfl) fun w hM => ?_
              replace hM := hM.to [.row b33 35 [.int .i64 t32.1.1, Str t32.1.2.1, .int .i64 t32.1.2.2, .int .i64 ((((t32.2 + la.length) + 1) : Nat) : Int)], .row b27 24 [.int .i64 0, .int .i64 0], .own 35 4 (.slice (some ⟨g24, 0, none⟩) ((ts3 ++ ts17.map (shT (la.length + 1))) ++ [endT ((la ++ [10]) ++ lb)]).length k25) ((ts3 ++ ts17.map (shT (la.length + 1))) ++ [endT ((la ++ [10]) ++ lb)]).length (cellsT ((ts3 ++ ts17.map (shT (la.length + 1))) ++ [endT ((la ++ [10]) ++ lb)])), .row b23 24 [.int .i64 0, .int .i64 0], .own 35 4 (.slice (some ⟨g20, 0, none⟩) (ts17 ++ [endT lb]).length k21) (ts17 ++ [endT lb]).length (cellsT (ts17 ++ [endT lb])), .row b16 24 [.int .i64 0, .int .i64 0], .own 35 4 (.slice (some ⟨g13, 0, none⟩) (ts3 ++ [endT la]).length k14) (ts3 ++ [endT la]).length (cellsT (ts3 ++ [endT la]))] (by kernel_rfl)
              refine region_done hK [(12, .pointer (some ⟨b33, 0, none⟩)), (95, .bool false), (88, .bool true), (84, .bool false), (54, .bool false), (43, .bool false), (9, .slice (some ⟨g24, 0, none⟩) ((ts3 ++ ts17.map (shT (la.length + 1))) ++ [endT ((la ++ [10]) ++ lb)]).length k25), (10, .pointer (some ⟨b27, 0, none⟩)), (7, .slice (some ⟨g20, 0, none⟩) (ts17 ++ [endT lb]).length k21), (8, .pointer (some ⟨b23, 0, none⟩)), (5, .slice (some ⟨g13, 0, none⟩) (ts3 ++ [endT la]).length k14), (6, .pointer (some ⟨b16, 0, none⟩)), (22, .bool false), (14, .bool false), (4, .bool false), (0, Str la), (1, Str lb), (11, .int .i64 ((i : Nat) : Int))] ⟨rfl, rfl, rfl, rfl, rfl, rfl, rfl, rfl, rfl, rfl, rfl, rfl, rfl, rfl, rfl, rfl, rfl, rfl, trivial⟩ fun a hK => ?_
              refine wp_seq ?_
              obtain ⟨t34, ht34⟩ : ∃ t, ((ts3 ++ ts17.map (shT (la.length + 1))) ++ [endT ((la ++ [10]) ++ lb)])[(i : Nat)]? = some t := ⟨_, List.getElem?_eq_getElem (by omega)⟩
              refine region_any (F := fun w => Mem w0 w [.row b33 35 [.int .i64 t32.1.1, Str t32.1.2.1, .int .i64 t32.1.2.2, .int .i64 ((((t32.2 + la.length) + 1) : Nat) : Int)], .row b27 24 [.int .i64 0, .int .i64 0], .own 35 4 (.slice (some ⟨g24, 0, none⟩) ((ts3 ++ ts17.map (shT (la.length + 1))) ++ [endT ((la ++ [10]) ++ lb)]).length k25) ((ts3 ++ ts17.map (shT (la.length + 1))) ++ [endT ((la ++ [10]) ++ lb)]).length (cellsT ((ts3 ++ ts17.map (shT (la.length + 1))) ++ [endT ((la ++ [10]) ++ lb)])), .row b23 24 [.int .i64 0, .int .i64 0], .own 35 4 (.slice (some ⟨g20, 0, none⟩) (ts17 ++ [endT lb]).length k21) (ts17 ++ [endT lb]).length (cellsT (ts17 ++ [endT lb])), .row b16 24 [.int .i64 0, .int .i64 0], .own 35 4 (.slice (some ⟨g13, 0, none⟩) (ts3 ++ [endT la]).length k14) (ts3 ++ [endT la]).length (cellsT (ts3 ++ [endT la]))]) hK [some (.slice (some ⟨g24, 0, none⟩) ((ts3 ++ ts17.map (shT (la.length + 1))) ++ [endT ((la ++ [10]) ++ lb)]).length k25), some (.int .i64 ((i : Nat) : Int)), some (.pointer (some ⟨g24, i * 4, none⟩)), some (.agg #[.int .i64 t34.1.1, Str t34.1.2.1, .int .i64 t34.1.2.2, .int .i64 ((t34.2 : Nat) : Int)]), some (.agg #[.int .i64 t32.1.1, Str t32.1.2.1, .int .i64 t32.1.2.2, .int .i64 ((((t32.2 + la.length) + 1) : Nat) : Int)]), some (.bool false)] 6 (fun _ _ hb hm => hm.go hb) hM (by kernel_rfl) (by kernel_rfl) ⟨⟨⟨⟨⟨⟨trivial, ?_⟩, ?_⟩, ?_⟩, ?_⟩, ?_⟩, ?_⟩ [(125, .bool false), (12, .pointer (some ⟨b33, 0, none⟩)), (95, .bool false), (88, .bool true), (84, .bool false), (54, .bool false), (43, .bool false), (9, .slice (some ⟨g24, 0, none⟩) ((ts3 ++ ts17.map (shT (la.length + 1))) ++ [endT ((la ++ [10]) ++ lb)]).length k25), (10, .pointer (some ⟨b27, 0, none⟩)), (7, .slice (some ⟨g20, 0, none⟩) (ts17 ++ [endT lb]).length k21), (8, .pointer (some ⟨b23, 0, none⟩)), (5, .slice (some ⟨g13, 0, none⟩) (ts3 ++ [endT la]).length k14), (6, .pointer (some ⟨b16, 0, none⟩)), (22, .bool false), (14, .bool false), (4, .bool false), (0, Str la), (1, Str lb), (11, .int .i64 ((i : Nat) : Int))] (by kernel_rfl) fun a w hK hM => ?_
              · exact .val (.slice (some ⟨g24, 0, none⟩) ((ts3 ++ ts17.map (shT (la.length + 1))) ++ [endT ((la ++ [10]) ++ lb)]).length k25) rfl (by kernel_rfl) (fun w hM => (by kernel_rfl))
              · exact .val (.int .i64 ((i : Nat) : Int)) rfl (by kernel_rfl) (fun w hM => (by kernel_rfl))
              · exact .val (.pointer (some ⟨g24, i * 4, none⟩)) rfl (by kernel_rfl) (fun w hM => (run_ixG (k := i) (s := 4) rfl rfl rfl Tryd.underlying29 (by kernel_rfl) (List.getElem?_eq_some_iff.1 ht34).1))
              · exact .val (.agg #[.int .i64 t34.1.1, Str t34.1.2.1, .int .i64 t34.1.2.2, .int .i64 ((t34.2 : Nat) : Int)]) rfl (by kernel_rfl) (fun w hM => run_loadE rfl rfl (((cells_drop _ i t34 ht34) ▸ hM.ownCells 2 rfl (i * 4) 4 : CellsAt w ⟨g24, i * 4, none⟩ (c4 (tk4 t34)))) (by kernel_rfl))
              · exact .val (.agg #[.int .i64 t32.1.1, Str t32.1.2.1, .int .i64 t32.1.2.2, .int .i64 ((((t32.2 + la.length) + 1) : Nat) : Int)]) rfl (by kernel_rfl) (fun w hM => run_loadE rfl rfl ((hM.row 0 rfl).cells 0 4) (by kernel_rfl))
              · exact .val (.bool false) rfl (by kernel_rfl) (fun w hM => (okBool (b := (!(decide ((t34.1.1 : Int) = t32.1.1) && decide (t34.1.2.1 = t32.1.2.1) && decide ((t34.1.2.2 : Int) = t32.1.2.2) && decide ((((t34.2 : Nat) : Int) : Int) = ((((t32.2 + la.length) + 1) : Nat) : Int))))) (run_neqTok rfl rfl rfl) (by rw [glue_ge (by omega) ht34 ht32]; simp)))
              refine wp_cond_false (hK.get rfl) ?_
              refine wp_skip ?_
              refine region_go (lst := [0, 1, 2]) (by kernel_rfl) ?_
              refine stepM hK 89 11 (by kernel_rfl) (.inl rfl) rfl fun a hK => ?_
              refine stepP hK 90 (.int .i64 (((i + 1) : Nat) : Int)) (by kernel_rfl) (run_addN (i := i) (j := 1) rfl rfl rfl (by omega)) fun a hK => ?_
              refine stepM hK 11 90 (by kernel_rfl) (.inr rfl) rfl fun a hK => ?_
              refine region_done hK [(11, .int .i64 (((i + 1) : Nat) : Int)), (125, .bool false), (12, .pointer (some ⟨b33, 0, none⟩)), (95, .bool false), (88, .bool true), (84, .bool false), (54, .bool false), (43, .bool false), (9, .slice (some ⟨g24, 0, none⟩) ((ts3 ++ ts17.map (shT (la.length + 1))) ++ [endT ((la ++ [10]) ++ lb)]).length k25), (10, .pointer (some ⟨b27, 0, none⟩)), (7, .slice (some ⟨g20, 0, none⟩) (ts17 ++ [endT lb]).length k21), (8, .pointer (some ⟨b23, 0, none⟩)), (5, .slice (some ⟨g13, 0, none⟩) (ts3 ++ [endT la]).length k14), (6, .pointer (some ⟨b16, 0, none⟩)), (22, .bool false), (14, .bool false), (4, .bool false), (0, Str la), (1, Str lb)] ⟨rfl, rfl, rfl, rfl, rfl, rfl, rfl, rfl, rfl, rfl, rfl, rfl, rfl, rfl, rfl, rfl, rfl, rfl, rfl, trivial⟩ fun a hK => ?_
              have hRn : (i + 1) ≤ ((ts3 ++ ts17.map (shT (la.length + 1))) ++ [endT ((la ++ [10]) ++ lb)]).length := by omega
              have hmn : ((ts3 ++ ts17.map (shT (la.length + 1))) ++ [endT ((la ++ [10]) ++ lb)]).length - (i + 1) < ((ts3 ++ ts17.map (shT (la.length + 1))) ++ [endT ((la ++ [10]) ++ lb)]).length - i := by omega
              exact ⟨i + 1, hK.sub ⟨rfl, rfl, rfl, rfl, rfl, rfl, rfl, rfl, rfl, rfl, rfl, rfl, rfl, rfl, rfl, trivial⟩, (hM.drop 1), hRn, hmn⟩
          · refine stepP hK 88 (.bool false) (by kernel_rfl) (okBool (b := (decide ((((i : Nat) : Int) : Int) < ((((ts3 ++ ts17.map (shT (la.length + 1))) ++ [endT ((la ++ [10]) ++ lb)]).length : Nat) : Int)))) (by kernel_rfl) (decide_eq_false h28)) fun a hK => ?_
            refine region_done hK [(88, .bool false), (84, .bool false), (54, .bool false), (43, .bool false), (9, .slice (some ⟨g24, 0, none⟩) ((ts3 ++ ts17.map (shT (la.length + 1))) ++ [endT ((la ++ [10]) ++ lb)]).length k25), (10, .pointer (some ⟨b27, 0, none⟩)), (7, .slice (some ⟨g20, 0, none⟩) (ts17 ++ [endT lb]).length k21), (8, .pointer (some ⟨b23, 0, none⟩)), (5, .slice (some ⟨g13, 0, none⟩) (ts3 ++ [endT la]).length k14), (6, .pointer (some ⟨b16, 0, none⟩)), (22, .bool false), (14, .bool false), (4, .bool false), (0, Str la), (1, Str lb), (11, .int .i64 ((i : Nat) : Int))] ⟨rfl, rfl, rfl, rfl, rfl, rfl, rfl, rfl, rfl, rfl, rfl, rfl, rfl, rfl, rfl, rfl, trivial⟩ fun a hK => ?_
            refine wp_cond_false (hK.get rfl) ?_
            refine wp_exit (exit_then (exit_then (exit_here 0 ?_)))
            refine wp_seq ?_
            refine region_go (lst := [0]) (by kernel_rfl) ?_
            refine stepP hK 4 (.bool true) (by kernel_rfl) (by kernel_rfl) fun a hK => ?_
            refine region_done hK [(4, .bool true), (88, .bool false), (84, .bool false), (54, .bool false), (43, .bool false), (9, .slice (some ⟨g24, 0, none⟩) ((ts3 ++ ts17.map (shT (la.length + 1))) ++ [endT ((la ++ [10]) ++ lb)]).length k25), (10, .pointer (some ⟨b27, 0, none⟩)), (7, .slice (some ⟨g20, 0, none⟩) (ts17 ++ [endT lb]).length k21), (8, .pointer (some ⟨b23, 0, none⟩)), (5, .slice (some ⟨g13, 0, none⟩) (ts3 ++ [endT la]).length k14), (6, .pointer (some ⟨b16, 0, none⟩)), (22, .bool false), (14, .bool false), (0, Str la), (1, Str lb), (11, .int .i64 ((i : Nat) : Int))] ⟨rfl, rfl, rfl, rfl, rfl, rfl, rfl, rfl, rfl, rfl, rfl, rfl, rfl, rfl, rfl, rfl, trivial⟩ fun a hK => ?_
            refine wp_ret ?_
            exact ret_t hK rfl (u := (.bool true)) rfl (⟨rfl, hM.below⟩)
end Go.Proofs.YtbcfggdifljacaaDoor
