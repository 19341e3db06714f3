/-
  Package lex: All, Word. The pure function that tells a text's tokens.
-/
import Derived.Test.YtbcfggdifljacaaDoorLpE
namespace Go.Proofs.YtbcfggdifljacaaDoor
open Go Go.RowKit

/-- A token and its place. -/
abbrev TkAt := Tk × Nat
def consT (t : TkAt) : Nat ⊕ List TkAt → Nat ⊕ List TkAt
  | .inl e => .inl e
  | .inr ts => .inr (t :: ts)
def preT (l : List TkAt) : Nat ⊕ List TkAt → Nat ⊕ List TkAt
  | .inl e => .inl e
  | .inr ts => .inr (l ++ ts)
def lexF : Nat → Nat → List UInt8 → Nat ⊕ List TkAt
  | 0, _, _ => .inr []
  | f + 1, at_, r => match r with
    | [] => .inr []
    | _ :: _ => match skip1 r with
      | some k => lexF f (at_ + k) (r.drop k)
      | none => match oneOf r with
        | some t => consT (t, at_) (lexF f (at_ + t.2.1.length) (r.drop t.2.1.length))
        | none => .inl at_
/-- The tokens of a rest that begins at a place, or the first place where none begins. -/
def lexL (at_ : Nat) (r : List UInt8) : Nat ⊕ List TkAt := lexF r.length at_ r
theorem tw_pos {p : UInt8 → Bool} {c : UInt8} {r : List UInt8} (h : p c = true) : 1 ≤ ((c :: r).takeWhile p).length := by
  rw [List.takeWhile_cons, if_pos h]; simp
theorem one_len {r : List UInt8} {t : Tk} (h : oneOf r = some t) : 1 ≤ t.2.1.length ∧ t.2.1.length ≤ r.length := by
  cases r with
  | nil => cases h
  | cons c r =>
    unfold oneOf at h
    simp only at h
    split at h
    · rename_i hl
      obtain rfl := Option.some.inj h
      exact ⟨tw_pos (by unfold wordB; rw [hl]; rfl), (List.takeWhile_prefix _).length_le⟩
    · split at h
      · rename_i hd
        obtain ⟨n, _, rfl⟩ := Option.map_eq_some_iff.1 h
        exact ⟨tw_pos hd, (List.takeWhile_prefix _).length_le⟩
      · obtain ⟨q, hq, rfl⟩ := Option.map_eq_some_iff.1 h
        exact (sign_pre hq).2
theorem lexF_more : ∀ (n m at_ : Nat) (r : List UInt8), r.length ≤ n → r.length ≤ m → lexF n at_ r = lexF m at_ r := by
  intro n
  induction n with
  | zero =>
    intro m at_ r h _
    obtain rfl : r = [] := List.eq_nil_of_length_eq_zero (by omega)
    cases m <;> rfl
  | succ n ih =>
    intro m at_ r h1 h2
    cases m with
    | zero =>
      obtain rfl : r = [] := List.eq_nil_of_length_eq_zero (by omega)
      rfl
    | succ m =>
      cases hr : r with
      | nil => rfl
      | cons c r' =>
        rw [← hr]
        have e : ∀ f, lexF (f + 1) at_ r = match skip1 r with
          | some k => lexF f (at_ + k) (r.drop k)
          | none => match oneOf r with
            | some t => consT (t, at_) (lexF f (at_ + t.2.1.length) (r.drop t.2.1.length))
            | none => .inl at_ := fun f => by rw [hr]; rfl
        rw [e, e]
        cases hs : skip1 r with
        | some k => have := skip1_pos hs; exact ih m _ _ (by simp; omega) (by simp; omega)
        | none =>
          cases ho : oneOf r with
          | none => rfl
          | some t => have := one_len ho; simp only; rw [ih m _ _ (by simp; omega) (by simp; omega)]
theorem lexL_eq {at_ : Nat} {r : List UInt8} (hne : r ≠ []) : lexL at_ r = match skip1 r with
    | some k => lexL (at_ + k) (r.drop k)
    | none => match oneOf r with
      | some t => consT (t, at_) (lexL (at_ + t.2.1.length) (r.drop t.2.1.length))
      | none => .inl at_ := by
  cases r with
  | nil => exact absurd rfl hne
  | cons c r' =>
    unfold lexL
    show (match skip1 (c :: r') with
      | some k => lexF r'.length (at_ + k) ((c :: r').drop k)
      | none => match oneOf (c :: r') with
        | some t => consT (t, at_) (lexF r'.length (at_ + t.2.1.length) ((c :: r').drop t.2.1.length))
        | none => .inl at_) = _
    cases hs : skip1 (c :: r') with
    | some k => have := skip1_pos hs; exact lexF_more _ _ _ _ (by simp; simp at this; omega) (Nat.le_refl _)
    | none =>
      cases ho : oneOf (c :: r') with
      | none => rfl
      | some t => have := one_len ho; simp only; rw [lexF_more _ ((c :: r').drop t.2.1.length).length _ _ (by simp; simp at this; omega) (Nat.le_refl _)]
theorem lexL_nil (at_ : Nat) : lexL at_ [] = .inr [] := rfl
theorem skip_ne {r : List UInt8} {k : Nat} (h : skip1 r = some k) : r ≠ [] := by rintro rfl; cases h
theorem lexL_skip {at_ : Nat} {r : List UInt8} {k : Nat} (h : skip1 r = some k) : lexL at_ r = lexL (at_ + k) (r.drop k) := by rw [lexL_eq (skip_ne h), h]
theorem lexL_tok {at_ : Nat} {r : List UInt8} {t : Tk} (h : skip1 r = none) (ho : oneOf r = some t) : lexL at_ r = consT (t, at_) (lexL (at_ + t.2.1.length) (r.drop t.2.1.length)) := by
  rw [lexL_eq (by rintro rfl; cases ho), h]; simp only; rw [ho]
theorem lexL_bad {at_ : Nat} {r : List UInt8} (hne : r ≠ []) (h : skip1 r = none) (ho : oneOf r = none) : lexL at_ r = .inl at_ := by
  rw [lexL_eq hne, h]; simp only; rw [ho]
theorem gap_ind : ∀ (n at_ : Nat) (r : List UInt8), r.length ≤ n → lexL at_ r = lexL (at_ + gapL r) (r.drop (gapL r)) ∧ skip1 (r.drop (gapL r)) = none := by
  intro n
  induction n with
  | zero =>
    intro at_ r h
    obtain rfl : r = [] := List.eq_nil_of_length_eq_zero (by omega)
    exact ⟨rfl, rfl⟩
  | succ n ih =>
    intro at_ r h
    cases hs : skip1 r with
    | none => rw [gapL_stop hs]; exact ⟨rfl, hs⟩
    | some k =>
      have hp := skip1_pos hs
      obtain ⟨h1, h2⟩ := ih (at_ + k) (r.drop k) (by simp; omega)
      rw [gapL_skip hs, lexL_skip hs, h1, List.drop_drop, Nat.add_assoc]
      rw [List.drop_drop] at h2
      exact ⟨rfl, h2⟩
theorem lexL_gap (at_ : Nat) (r : List UInt8) : lexL at_ r = lexL (at_ + gapL r) (r.drop (gapL r)) := (gap_ind r.length at_ r (Nat.le_refl _)).1
theorem gap_after (r : List UInt8) : skip1 (r.drop (gapL r)) = none := (gap_ind r.length 0 r (Nat.le_refl _)).2
theorem preT_cons (l : List TkAt) (t : TkAt) (x : Nat ⊕ List TkAt) : preT l (consT t x) = preT (l ++ [t]) x := by
  cases x with
  | inl e => rfl
  | inr ts => show Sum.inr (l ++ t :: ts) = Sum.inr (l ++ [t] ++ ts); rw [List.append_assoc]; rfl
theorem preT_nil (x : Nat ⊕ List TkAt) : preT [] x = x := by cases x <;> rfl
/-- The cells of tokens. -/
def cellsT (ts : List TkAt) : List Value := ts.flatMap fun t => tokC t.1.1 t.1.2.1 t.1.2.2 ((t.2 : Nat) : Int)
theorem cellsT_snoc (ts : List TkAt) (t : TkAt) : cellsT (ts ++ [t]) = cellsT ts ++ tokC t.1.1 t.1.2.1 t.1.2.2 ((t.2 : Nat) : Int) := by simp [cellsT]
def endT (l : List UInt8) : TkAt := ((5, [], 0), l.length)
/-- What All hands back. -/
def AllPost (l : List UInt8) (w0 : World) : Ending → World → Prop :=
  if 65536 < l.length then Ret w0 (.tuple #[.slice none 0 0, .agg #[.int .i64 3, .int .i64 0]])
  else match lexL 0 l with
    | .inl p => Ret w0 (.tuple #[.slice none 0 0, .agg #[.int .i64 4, .int .i64 ((p : Nat) : Int)]])
    | .inr ts => Gives w0 (fun v : Value => .tuple #[v, .agg #[.int .i64 0, .int .i64 0]]) (fun v => [.own 35 4 v (ts ++ [endT l]).length (cellsT (ts ++ [endT l]))]) fun _ => True
theorem post_long {l : List UInt8} {w0 : World} {e : Ending} {w : World} (h : 65536 < l.length) (hr : Ret w0 (.tuple #[.slice none 0 0, .agg #[.int .i64 3, .int .i64 0]]) e w) : AllPost l w0 e w := by
  unfold AllPost; rw [if_pos h]; exact hr
theorem post_bad {l : List UInt8} {w0 : World} {e : Ending} {w : World} {p : Nat} (h : ¬ 65536 < l.length) (hx : lexL 0 l = .inl p) (hr : Ret w0 (.tuple #[.slice none 0 0, .agg #[.int .i64 4, .int .i64 ((p : Nat) : Int)]]) e w) : AllPost l w0 e w := by
  unfold AllPost; rw [if_neg h, hx]; exact hr
theorem post_good {l : List UInt8} {w0 : World} {w : World} {ts : List TkAt} (h : ¬ 65536 < l.length) (hx : lexL 0 l = .inr ts) {v : Value} (hm : Mem w0 w [.own 35 4 v (ts ++ [endT l]).length (cellsT (ts ++ [endT l]))]) : AllPost l w0 (.returned (.tuple #[v, .agg #[.int .i64 0, .int .i64 0]])) w := by
  unfold AllPost; rw [if_neg h, hx]; exact ⟨v, rfl, hm, trivial⟩
theorem elem_tok : Elem Tryd.prog 35 (.agg (tokC 0 [] 0 0).toArray) 4 40 := by
  refine ⟨?_, rfl, by decide⟩
  have h : (Tryd.prog.info? 35).map (fun i => (i.zero, i.size, i.bytes)) = some (some (.agg (tokC 0 [] 0 0).toArray), 4, 40) := by kernel_rfl
  obtain ⟨i, hi, he⟩ := Option.map_eq_some_iff.1 h
  simp only [Prod.mk.injEq] at he
  exact ⟨i, hi, he.1, he.2.1, he.2.2⟩
set_option maxRecDepth 100000 in
set_option maxHeartbeats 4000000 in
theorem lex_All (l : List UInt8) (w0 : World) (hE : ErrOk w0) (hlen : l.length ≤ 4611686018427387904) : Calls Tryd.prog 11 #[Str l] w0 (AllPost l w0) := by
  refine calls_K (args := [Str l]) (n := 56) (env := [(0, Str l)]) Tryd.func11 rfl rfl rfl ⟨rfl, trivial⟩ fun a w hK hM => ?_
  refine wp_seq ?_
  refine region_go (lst := [0, 1]) (by kernel_rfl) ?_
  refine stepP hK 2 (.slice none 0 0) (by kernel_rfl) (by kernel_rfl) fun a hK => ?_
  refine stepAlloc hK hM 3 24 [.int .i64 0, .int .i64 0] (fun b => .pointer (some ⟨b, 0, none⟩)) (by kernel_rfl) (by kernel_rfl) fun b1 a w hK hM => ?_
  refine region_done hK [(3, .pointer (some ⟨b1, 0, none⟩)), (2, .slice none 0 0), (0, Str l)] ⟨rfl, rfl, rfl, trivial⟩ fun a hK => ?_
  refine wp_seq ?_
  refine wp_seq ?_
  refine region_go (lst := [0, 1, 2]) (by kernel_rfl) ?_
  refine stepM hK 9 0 (by kernel_rfl) (.inl rfl) rfl fun a hK => ?_
  refine stepP hK 10 (.int .i64 ((l.length : Nat) : Int)) (by kernel_rfl) (by kernel_rfl) fun a hK => ?_
  by_cases h2 : (65536 : Int) < ((l.length : Nat) : Int)
  · refine stepP hK 11 (.bool true) (by kernel_rfl) (okBool (b := (decide ((65536 : Int) < ((l.length : Nat) : Int)))) (by kernel_rfl) (decide_eq_true h2)) fun a hK => ?_
    refine region_done hK [(11, .bool true), (3, .pointer (some ⟨b1, 0, none⟩)), (2, .slice none 0 0), (0, Str l)] ⟨rfl, rfl, rfl, rfl, trivial⟩ fun a hK => ?_
    refine wp_cond_true (hK.get rfl) ?_
    refine wp_seq ?_
    refine region_go (lst := [0, 1, 2]) (by kernel_rfl) ?_
    refine stepP hK 12 (.agg #[.int .i64 3, .int .i64 0]) (by kernel_rfl) (by kernel_rfl) fun a hK => ?_
    refine stepP hK 2 (.slice none 0 0) (by kernel_rfl) (by kernel_rfl) fun a hK => ?_
    refine stepStore hK hM 0 [.int .i64 3, .int .i64 0] (by kernel_rfl) rfl rfl rfl rfl (by kernel_rfl) fun w hM => ?_
    replace hM := hM.to [.row b1 24 [.int .i64 3, .int .i64 0]] (by kernel_rfl)
    refine region_done hK [(2, .slice none 0 0), (11, .bool true), (3, .pointer (some ⟨b1, 0, none⟩)), (0, Str l)] ⟨rfl, rfl, rfl, rfl, trivial⟩ fun a hK => ?_
    refine wp_ret ?_
    exact ret_tc hK rfl (v := (.slice none 0 0)) rfl rfl ((hM.row 0 rfl).cells 0 2) (u := (.agg #[.int .i64 3, .int .i64 0])) (by kernel_rfl) (post_long (by omega) ⟨rfl, hM.below⟩)
  · refine stepP hK 11 (.bool false) (by kernel_rfl) (okBool (b := (decide ((65536 : Int) < ((l.length : Nat) : Int)))) (by kernel_rfl) (decide_eq_false h2)) fun a hK => ?_
    refine region_done hK [(11, .bool false), (3, .pointer (some ⟨b1, 0, none⟩)), (2, .slice none 0 0), (0, Str l)] ⟨rfl, rfl, rfl, rfl, trivial⟩ fun a hK => ?_
    refine wp_cond_false (hK.get rfl) ?_
    refine wp_skip ?_
    refine wp_seq ?_
    refine region_go (lst := [0, 1]) (by kernel_rfl) ?_
    refine stepCall hK hM 13 #[] (by kernel_rfl) (run_callE en_lex_keywords rfl rfl (by kernel_rfl)) (lex_keywords _) ?_
    rintro b3 a w - hK hM
    refine stepM hK 4 13 (by kernel_rfl) (.inr rfl) rfl fun a hK => ?_
    refine region_done hK [(4, .map (some b3)), (11, .bool false), (3, .pointer (some ⟨b1, 0, none⟩)), (2, .slice none 0 0), (0, Str l)] ⟨rfl, rfl, rfl, rfl, rfl, trivial⟩ fun a hK => ?_
    refine wp_seq ?_
    refine region_go (lst := [0]) (by kernel_rfl) ?_
    refine stepP hK 5 (.slice none 0 0) (by kernel_rfl) (by kernel_rfl) fun a hK => ?_
    refine region_done hK [(5, .slice none 0 0), (4, .map (some b3)), (11, .bool false), (3, .pointer (some ⟨b1, 0, none⟩)), (2, .slice none 0 0), (0, Str l)] ⟨rfl, rfl, rfl, rfl, rfl, rfl, trivial⟩ fun a hK => ?_
    refine wp_seq ?_
    refine wp_seq ?_
    refine region_go (lst := [0, 1, 2]) (by kernel_rfl) ?_
    refine stepM hK 14 0 (by kernel_rfl) (.inl rfl) rfl fun a hK => ?_
    refine stepRet hK hM 15 #[Str l] (.int .i64 (((gapL l) : Nat) : Int)) (by kernel_rfl) (run_callE en_lex_gap rfl rfl (by kernel_rfl)) (lex_gap l (by first | omega | (rw [List.length_drop]; omega) | (rw [List.length_take]; omega) | (rw [List.length_take, List.length_drop]; omega)) _) fun a w hK hM => ?_
    refine stepM hK 6 15 (by kernel_rfl) (.inr rfl) rfl fun a hK => ?_
    refine region_done hK [(6, .int .i64 (((gapL l) : Nat) : Int)), (5, .slice none 0 0), (4, .map (some b3)), (11, .bool false), (3, .pointer (some ⟨b1, 0, none⟩)), (2, .slice none 0 0), (0, Str l)] ⟨rfl, rfl, rfl, rfl, rfl, rfl, rfl, trivial⟩ fun a hK => ?_
    refine wp_block ?_
    replace hM := hM.cons (it := .own 35 4 (.slice none 0 0) 0 []) (World.ownsRow_nil _ _ _ _) (fun _ _ => .inl rfl)
    refine wp_loopX (fun x : Nat × Value × (List TkAt) => [(4, .map (some b3)), (11, .bool false), (3, .pointer (some ⟨b1, 0, none⟩)), (2, .slice none 0 0), (0, Str l), (6, .int .i64 ((x.1 : Nat) : Int)), (5, x.2.1)]) (fun x : Nat × Value × (List TkAt) => [.own 35 4 x.2.1 x.2.2.length (cellsT x.2.2), .obj b3 kwObj, .row b1 24 [.int .i64 0, .int .i64 0]]) (fun x : Nat × Value × (List TkAt) => x.1 ≤ l.length ∧ x.2.2.length ≤ x.1 ∧ lexL 0 l = preT x.2.2 (lexL x.1 (l.drop x.1)) ∧ skip1 (l.drop x.1) = none) (fun x : Nat × Value × (List TkAt) => l.length - x.1) (gapL l, .slice none 0 0, []) (hK.sub ⟨rfl, rfl, rfl, rfl, rfl, rfl, rfl, trivial⟩) hM ⟨gapL_le l, Nat.zero_le _, by rw [preT_nil, lexL_gap, Nat.zero_add], gap_after l⟩ ?_
    rintro ⟨p, v, ts⟩ a w hK hM hR
    replace hK : Knows a 56 [(4, .map (some b3)), (11, .bool false), (3, .pointer (some ⟨b1, 0, none⟩)), (2, .slice none 0 0), (0, Str l), (6, .int .i64 ((p : Nat) : Int)), (5, v)] := hK
    replace hM : Mem w0 w [.own 35 4 v ts.length (cellsT ts), .obj b3 kwObj, .row b1 24 [.int .i64 0, .int .i64 0]] := hM
    replace hR : p ≤ l.length ∧ ts.length ≤ p ∧ lexL 0 l = preT ts (lexL p (l.drop p)) ∧ skip1 (l.drop p) = none := hR
    have hp := hR.1
    have htl := hR.2.1
    refine wp_seq ?_
    refine wp_seq ?_
    refine region_go (lst := [0, 1, 2, 3]) (by kernel_rfl) ?_
    refine stepM hK 16 6 (by kernel_rfl) (.inl rfl) rfl fun a hK => ?_
    refine stepM hK 17 0 (by kernel_rfl) (.inl rfl) rfl fun a hK => ?_
    refine stepP hK 18 (.int .i64 ((l.length : Nat) : Int)) (by kernel_rfl) (by kernel_rfl) fun a hK => ?_
    by_cases h5 : (((p : Nat) : Int) : Int) < ((l.length : Nat) : Int)
    · refine stepP hK 19 (.bool true) (by kernel_rfl) (okBool (b := (decide ((((p : Nat) : Int) : Int) < ((l.length : Nat) : Int)))) (by kernel_rfl) (decide_eq_true h5)) fun a hK => ?_
      refine region_done hK [(19, .bool true), (4, .map (some b3)), (11, .bool false), (3, .pointer (some ⟨b1, 0, none⟩)), (2, .slice none 0 0), (0, Str l), (6, .int .i64 ((p : Nat) : Int)), (5, v)] ⟨rfl, rfl, rfl, rfl, rfl, rfl, rfl, rfl, trivial⟩ fun a hK => ?_
      refine wp_cond_true (hK.get rfl) ?_
      refine wp_skip ?_
      refine wp_seq ?_
      refine wp_block ?_
      refine wp_seq ?_
      refine region_go (lst := [0, 1, 2, 3, 4, 5, 6, 7, 8, 9, 10]) (by kernel_rfl) ?_
      refine stepM hK 27 0 (by kernel_rfl) (.inl rfl) rfl fun a hK => ?_
      refine stepM hK 28 6 (by kernel_rfl) (.inl rfl) rfl fun a hK => ?_
      refine stepP hK 29 (Str (l.drop p)) (by kernel_rfl) (run_slcLo (i := p) rfl rfl rfl (by omega)) fun a hK => ?_
      refine stepM hK 30 4 (by kernel_rfl) (.inl rfl) rfl fun a hK => ?_
      rcases ho : oneOf (l.drop p) with _ | t9
      · refine stepRet hK hM 31 #[Str (l.drop p), .map (some b3)] (.tuple #[.agg #[.int .i64 (badK (l.drop p)), Str [], .int .i64 0, .int .i64 0], .bool false]) (by kernel_rfl) (run_callE en_lex_first rfl rfl (by kernel_rfl)) (ret_eq (lex_first (l.drop p) _ _ (hE.on hM.below) (by rw [List.length_drop]; omega) (by rw [List.length_drop]; omega) (hM.objlt 1 rfl) (hM.obj 1 rfl)) (v' := (.tuple #[.agg #[.int .i64 (badK (l.drop p)), Str [], .int .i64 0, .int .i64 0], .bool false])) (by unfold firstV; rw [ho]; rfl)) fun a w hK hM => ?_
        refine stepM hK 26 31 (by kernel_rfl) (.inl rfl) rfl fun a hK => ?_
        refine stepP hK 32 (.agg #[.int .i64 (badK (l.drop p)), Str [], .int .i64 0, .int .i64 0]) (by kernel_rfl) (by kernel_rfl) fun a hK => ?_
        refine stepP hK 33 (.bool false) (by kernel_rfl) (by kernel_rfl) fun a hK => ?_
        refine stepAlloc hK hM 7 35 [.int .i64 0, Str [], .int .i64 0, .int .i64 0] (fun b => .pointer (some ⟨b, 0, none⟩)) (by kernel_rfl) (by kernel_rfl) fun b6 a w hK hM => ?_
        refine stepStore hK hM 0 [.int .i64 (badK (l.drop p)), Str [], .int .i64 0, .int .i64 0] (by kernel_rfl) rfl rfl rfl rfl (by kernel_rfl) fun w hM => ?_
        replace hM := hM.to [.row b6 35 [.int .i64 (badK (l.drop p)), Str [], .int .i64 0, .int .i64 0], .own 35 4 v ts.length (cellsT ts), .obj b3 kwObj, .row b1 24 [.int .i64 0, .int .i64 0]] (by kernel_rfl)
        refine stepM hK 8 33 (by kernel_rfl) (.inr rfl) rfl fun a hK => ?_
        refine region_done hK [(8, .bool false), (7, .pointer (some ⟨b6, 0, none⟩)), (19, .bool true), (4, .map (some b3)), (11, .bool false), (3, .pointer (some ⟨b1, 0, none⟩)), (2, .slice none 0 0), (0, Str l), (6, .int .i64 ((p : Nat) : Int)), (5, v)] ⟨rfl, rfl, rfl, rfl, rfl, rfl, rfl, rfl, rfl, rfl, trivial⟩ fun a hK => ?_
        refine wp_seq ?_
        refine wp_seq ?_
        refine region_go (lst := [0, 1]) (by kernel_rfl) ?_
        refine stepM hK 34 8 (by kernel_rfl) (.inl rfl) rfl fun a hK => ?_
        refine stepP hK 35 (.bool true) (by kernel_rfl) (by kernel_rfl) fun a hK => ?_
        refine region_done hK [(35, .bool true), (8, .bool false), (7, .pointer (some ⟨b6, 0, none⟩)), (19, .bool true), (4, .map (some b3)), (11, .bool false), (3, .pointer (some ⟨b1, 0, none⟩)), (2, .slice none 0 0), (0, Str l), (6, .int .i64 ((p : Nat) : Int)), (5, v)] ⟨rfl, rfl, rfl, rfl, rfl, rfl, rfl, rfl, rfl, rfl, rfl, trivial⟩ fun a hK => ?_
        refine wp_cond_true (hK.get rfl) ?_
        refine wp_seq ?_
        refine region_go (lst := [0, 1, 2, 3]) (by kernel_rfl) ?_
        refine stepM hK 36 6 (by kernel_rfl) (.inl rfl) rfl fun a hK => ?_
        refine stepP hK 37 (.agg #[.int .i64 4, .int .i64 ((p : Nat) : Int)]) (by kernel_rfl) (by kernel_rfl) fun a hK => ?_
        refine stepP hK 2 (.slice none 0 0) (by kernel_rfl) (by kernel_rfl) fun a hK => ?_
        refine stepStore hK hM 3 [.int .i64 4, .int .i64 ((p : Nat) : Int)] (by kernel_rfl) rfl rfl rfl rfl (by kernel_rfl) fun w hM => ?_
        replace hM := hM.to [.row b6 35 [.int .i64 (badK (l.drop p)), Str [], .int .i64 0, .int .i64 0], .own 35 4 v ts.length (cellsT ts), .obj b3 kwObj, .row b1 24 [.int .i64 4, .int .i64 ((p : Nat) : Int)]] (by kernel_rfl)
        refine region_done hK [(2, .slice none 0 0), (35, .bool true), (8, .bool false), (7, .pointer (some ⟨b6, 0, none⟩)), (19, .bool true), (4, .map (some b3)), (11, .bool false), (3, .pointer (some ⟨b1, 0, none⟩)), (0, Str l), (6, .int .i64 ((p : Nat) : Int)), (5, v)] ⟨rfl, rfl, rfl, rfl, rfl, rfl, rfl, rfl, rfl, rfl, rfl, trivial⟩ fun a hK => ?_
        refine wp_ret ?_
        exact ret_tc hK rfl (v := (.slice none 0 0)) rfl rfl ((hM.row 3 rfl).cells 0 2) (u := (.agg #[.int .i64 4, .int .i64 ((p : Nat) : Int)])) (by kernel_rfl) (post_bad (p := p) (by omega) (by rw [hR.2.2.1, lexL_bad (by intro e; have := congrArg List.length e; rw [List.length_drop, List.length_nil] at this; omega) hR.2.2.2 ho]; rfl) ⟨rfl, hM.below⟩)
      · have h1l := one_len ho
        rw [List.length_drop] at h1l
        refine stepRet hK hM 31 #[Str (l.drop p), .map (some b3)] (.tuple #[.agg #[.int .i64 t9.1, Str t9.2.1, .int .i64 t9.2.2, .int .i64 0], .bool true]) (by kernel_rfl) (run_callE en_lex_first rfl rfl (by kernel_rfl)) (ret_eq (lex_first (l.drop p) _ _ (hE.on hM.below) (by rw [List.length_drop]; omega) (by rw [List.length_drop]; omega) (hM.objlt 1 rfl) (hM.obj 1 rfl)) (v' := (.tuple #[.agg #[.int .i64 t9.1, Str t9.2.1, .int .i64 t9.2.2, .int .i64 0], .bool true])) (by unfold firstV; rw [ho]; rfl)) fun a w hK hM => ?_
        refine stepM hK 26 31 (by kernel_rfl) (.inl rfl) rfl fun a hK => ?_
        refine stepP hK 32 (.agg #[.int .i64 t9.1, Str t9.2.1, .int .i64 t9.2.2, .int .i64 0]) (by kernel_rfl) (by kernel_rfl) fun a hK => ?_
        refine stepP hK 33 (.bool true) (by kernel_rfl) (by kernel_rfl) fun a hK => ?_
        refine stepAlloc hK hM 7 35 [.int .i64 0, Str [], .int .i64 0, .int .i64 0] (fun b => .pointer (some ⟨b, 0, none⟩)) (by kernel_rfl) (by kernel_rfl) fun b7 a w hK hM => ?_
        refine stepStore hK hM 0 [.int .i64 t9.1, Str t9.2.1, .int .i64 t9.2.2, .int .i64 0] (by kernel_rfl) rfl rfl rfl rfl (by kernel_rfl) fun w hM => ?_
        replace hM := hM.to [.row b7 35 [.int .i64 t9.1, Str t9.2.1, .int .i64 t9.2.2, .int .i64 0], .own 35 4 v ts.length (cellsT ts), .obj b3 kwObj, .row b1 24 [.int .i64 0, .int .i64 0]] (by kernel_rfl)
        refine stepM hK 8 33 (by kernel_rfl) (.inr rfl) rfl fun a hK => ?_
        refine region_done hK [(8, .bool true), (7, .pointer (some ⟨b7, 0, none⟩)), (19, .bool true), (4, .map (some b3)), (11, .bool false), (3, .pointer (some ⟨b1, 0, none⟩)), (2, .slice none 0 0), (0, Str l), (6, .int .i64 ((p : Nat) : Int)), (5, v)] ⟨rfl, rfl, rfl, rfl, rfl, rfl, rfl, rfl, rfl, rfl, trivial⟩ fun a hK => ?_
        refine wp_seq ?_
        refine wp_seq ?_
        refine region_go (lst := [0, 1]) (by kernel_rfl) ?_
        refine stepM hK 34 8 (by kernel_rfl) (.inl rfl) rfl fun a hK => ?_
        refine stepP hK 35 (.bool false) (by kernel_rfl) (by kernel_rfl) fun a hK => ?_
        refine region_done hK [(35, .bool false), (8, .bool true), (7, .pointer (some ⟨b7, 0, none⟩)), (19, .bool true), (4, .map (some b3)), (11, .bool false), (3, .pointer (some ⟨b1, 0, none⟩)), (2, .slice none 0 0), (0, Str l), (6, .int .i64 ((p : Nat) : Int)), (5, v)] ⟨rfl, rfl, rfl, rfl, rfl, rfl, rfl, rfl, rfl, rfl, rfl, trivial⟩ fun a hK => ?_
        refine wp_cond_false (hK.get rfl) ?_
        refine wp_skip ?_
        refine wp_seq ?_
        refine region_go (lst := [0, 1, 2]) (by kernel_rfl) ?_
        refine stepM hK 38 6 (by kernel_rfl) (.inl rfl) rfl fun a hK => ?_
        refine stepP hK 39 (.pointer (some ⟨b7, 3, none⟩)) (by kernel_rfl) (by kernel_rfl) fun a hK => ?_
        refine stepStore hK hM 0 [.int .i64 t9.1, Str t9.2.1, .int .i64 t9.2.2, .int .i64 ((p : Nat) : Int)] (by kernel_rfl) rfl rfl rfl rfl (by kernel_rfl) fun w hM => ?_
        replace hM := hM.to [.row b7 35 [.int .i64 t9.1, Str t9.2.1, .int .i64 t9.2.2, .int .i64 ((p : Nat) : Int)], .own 35 4 v ts.length (cellsT ts), .obj b3 kwObj, .row b1 24 [.int .i64 0, .int .i64 0]] (by kernel_rfl)
        refine region_done hK [(35, .bool false), (8, .bool true), (7, .pointer (some ⟨b7, 0, none⟩)), (19, .bool true), (4, .map (some b3)), (11, .bool false), (3, .pointer (some ⟨b1, 0, none⟩)), (2, .slice none 0 0), (0, Str l), (6, .int .i64 ((p : Nat) : Int)), (5, v)] ⟨rfl, rfl, rfl, rfl, rfl, rfl, rfl, rfl, rfl, rfl, rfl, trivial⟩ fun a hK => ?_
        refine wp_seq ?_
        refine region_go (lst := [0, 1, 2, 3, 4]) (by kernel_rfl) ?_
        refine stepM hK 40 5 (by kernel_rfl) (.inl rfl) rfl fun a hK => ?_
        refine stepLoad hK 41 (.agg #[.int .i64 t9.1, Str t9.2.1, .int .i64 t9.2.2, .int .i64 ((p : Nat) : Int)]) (by kernel_rfl) rfl rfl ((hM.row 0 rfl).cells 0 4) (by kernel_rfl) fun a hK => ?_
        refine stepAlloc hK hM 42 35 [.int .i64 t9.1, Str t9.2.1, .int .i64 t9.2.2, .int .i64 ((p : Nat) : Int)] (fun b => .slice (some ⟨b, 0, none⟩) 1 1) (by kernel_rfl) (by kernel_rfl) fun b8 a w hK hM => ?_
        refine stepAppend hK hM 43 2 0 (ety := 35) (size := 4) (m := 1) (news := [.int .i64 t9.1, Str t9.2.1, .int .i64 t9.2.2, .int .i64 ((p : Nat) : Int)]) Tryd.underlying29 elem_tok (by kernel_rfl) rfl rfl rfl rfl rfl rfl (by kernel_rfl) ⟨by omega, by decide⟩ ?_
        intro v9 a w hK hM
        replace hM := hM.to [.row b8 35 [.int .i64 t9.1, Str t9.2.1, .int .i64 t9.2.2, .int .i64 ((p : Nat) : Int)], .row b7 35 [.int .i64 t9.1, Str t9.2.1, .int .i64 t9.2.2, .int .i64 ((p : Nat) : Int)], .own 35 4 v9 (ts.length + 1) ((cellsT ts) ++ [.int .i64 t9.1, Str t9.2.1, .int .i64 t9.2.2, .int .i64 ((p : Nat) : Int)]), .obj b3 kwObj, .row b1 24 [.int .i64 0, .int .i64 0]] (by kernel_rfl)
        refine stepM hK 5 43 (by kernel_rfl) (.inr rfl) rfl fun a hK => ?_
        refine region_done hK [(5, v9), (35, .bool false), (8, .bool true), (7, .pointer (some ⟨b7, 0, none⟩)), (19, .bool true), (4, .map (some b3)), (11, .bool false), (3, .pointer (some ⟨b1, 0, none⟩)), (2, .slice none 0 0), (0, Str l), (6, .int .i64 ((p : Nat) : Int))] ⟨rfl, rfl, rfl, rfl, rfl, rfl, rfl, rfl, rfl, rfl, rfl, trivial⟩ fun a hK => ?_
        refine region_go (lst := [0, 1, 2, 3, 4, 5]) (by kernel_rfl) ?_
        refine stepM hK 44 6 (by kernel_rfl) (.inl rfl) rfl fun a hK => ?_
        refine stepP hK 45 (.pointer (some ⟨b7, 1, none⟩)) (by kernel_rfl) (by kernel_rfl) fun a hK => ?_
        refine stepLoad hK 46 (Str t9.2.1) (by kernel_rfl) rfl rfl ((hM.row 1 rfl).cells 1 1) (by kernel_rfl) fun a hK => ?_
        refine stepP hK 47 (.int .i64 ((t9.2.1.length : Nat) : Int)) (by kernel_rfl) (by kernel_rfl) fun a hK => ?_
        refine stepP hK 48 (.int .i64 (((p + t9.2.1.length) : Nat) : Int)) (by kernel_rfl) (run_addN (i := p) (j := t9.2.1.length) rfl rfl rfl (by omega)) fun a hK => ?_
        refine stepM hK 6 48 (by kernel_rfl) (.inr rfl) rfl fun a hK => ?_
        refine region_done hK [(6, .int .i64 (((p + t9.2.1.length) : Nat) : Int)), (5, v9), (35, .bool false), (8, .bool true), (7, .pointer (some ⟨b7, 0, none⟩)), (19, .bool true), (4, .map (some b3)), (11, .bool false), (3, .pointer (some ⟨b1, 0, none⟩)), (2, .slice none 0 0), (0, Str l)] ⟨rfl, rfl, rfl, rfl, rfl, rfl, rfl, rfl, rfl, rfl, rfl, trivial⟩ fun a hK => ?_
        refine region_go (lst := [0, 1, 2, 3, 4, 5, 6]) (by kernel_rfl) ?_
        refine stepM hK 20 6 (by kernel_rfl) (.inl rfl) rfl fun a hK => ?_
        refine stepM hK 21 0 (by kernel_rfl) (.inl rfl) rfl fun a hK => ?_
        refine stepM hK 22 6 (by kernel_rfl) (.inl rfl) rfl fun a hK => ?_
        refine stepP hK 23 (Str (l.drop (p + t9.2.1.length))) (by kernel_rfl) (run_slcLo (i := (p + t9.2.1.length)) rfl rfl rfl (by omega)) fun a hK => ?_
        refine stepRet hK hM 24 #[Str (l.drop (p + t9.2.1.length))] (.int .i64 (((gapL (l.drop (p + t9.2.1.length))) : Nat) : Int)) (by kernel_rfl) (run_callE en_lex_gap rfl rfl (by kernel_rfl)) (lex_gap (l.drop (p + t9.2.1.length)) (by first | omega | (rw [List.length_drop]; omega) | (rw [List.length_take]; omega) | (rw [List.length_take, List.length_drop]; omega)) _) fun a w hK hM => ?_
        refine stepP hK 25 (.int .i64 ((((p + t9.2.1.length) + (gapL (l.drop (p + t9.2.1.length)))) : Nat) : Int)) (by kernel_rfl) (run_addN (i := (p + t9.2.1.length)) (j := (gapL (l.drop (p + t9.2.1.length)))) rfl rfl rfl (by have hg := gapL_le (l.drop (p + t9.2.1.length)); rw [List.length_drop] at hg; omega)) fun a hK => ?_
        refine stepM hK 6 25 (by kernel_rfl) (.inr rfl) rfl fun a hK => ?_
        refine region_done hK [(6, .int .i64 ((((p + t9.2.1.length) + (gapL (l.drop (p + t9.2.1.length)))) : Nat) : Int)), (5, v9), (35, .bool false), (8, .bool true), (7, .pointer (some ⟨b7, 0, none⟩)), (19, .bool true), (4, .map (some b3)), (11, .bool false), (3, .pointer (some ⟨b1, 0, none⟩)), (2, .slice none 0 0), (0, Str l)] ⟨rfl, rfl, rfl, rfl, rfl, rfl, rfl, rfl, rfl, rfl, rfl, trivial⟩ fun a hK => ?_
        replace hM := hM.to [.row b8 35 [.int .i64 t9.1, Str t9.2.1, .int .i64 t9.2.2, .int .i64 ((p : Nat) : Int)], .row b7 35 [.int .i64 t9.1, Str t9.2.1, .int .i64 t9.2.2, .int .i64 ((p : Nat) : Int)], .own 35 4 v9 (ts ++ [(t9, p)]).length (cellsT (ts ++ [(t9, p)])), .obj b3 kwObj, .row b1 24 [.int .i64 0, .int .i64 0]] (by rw [cellsT_snoc, List.length_append]; rfl)
        have hg := gapL_le (l.drop (p + t9.2.1.length))
        rw [List.length_drop] at hg
        have hnew : lexL 0 l = preT (ts ++ [(t9, p)]) (lexL ((p + t9.2.1.length) + gapL (l.drop (p + t9.2.1.length))) (l.drop ((p + t9.2.1.length) + gapL (l.drop (p + t9.2.1.length))))) := by rw [hR.2.2.1, lexL_tok hR.2.2.2 ho, preT_cons, List.drop_drop, lexL_gap, List.drop_drop]
        have haf := gap_after (l.drop (p + t9.2.1.length))
        rw [List.drop_drop] at haf
        have hRn : ((p + t9.2.1.length) + gapL (l.drop (p + t9.2.1.length))) ≤ l.length ∧ ((ts ++ [(t9, p)])).length ≤ ((p + t9.2.1.length) + gapL (l.drop (p + t9.2.1.length))) ∧ lexL 0 l = preT ((ts ++ [(t9, p)])) (lexL ((p + t9.2.1.length) + gapL (l.drop (p + t9.2.1.length))) (l.drop ((p + t9.2.1.length) + gapL (l.drop (p + t9.2.1.length))))) ∧ skip1 (l.drop ((p + t9.2.1.length) + gapL (l.drop (p + t9.2.1.length)))) = none := ⟨by omega, by rw [List.length_append]; simp only [List.length_cons, List.length_nil]; omega, hnew, haf⟩
        have hmn : l.length - ((p + t9.2.1.length) + gapL (l.drop (p + t9.2.1.length))) < l.length - p := by omega
        exact ⟨((p + t9.2.1.length) + gapL (l.drop (p + t9.2.1.length)), v9, (ts ++ [(t9, p)])), hK.sub ⟨rfl, rfl, rfl, rfl, rfl, rfl, rfl, trivial⟩, (hM.drop 2), hRn, hmn⟩
    · refine stepP hK 19 (.bool false) (by kernel_rfl) (okBool (b := (decide ((((p : Nat) : Int) : Int) < ((l.length : Nat) : Int)))) (by kernel_rfl) (decide_eq_false h5)) fun a hK => ?_
      refine region_done hK [(19, .bool false), (4, .map (some b3)), (11, .bool false), (3, .pointer (some ⟨b1, 0, none⟩)), (2, .slice none 0 0), (0, Str l), (6, .int .i64 ((p : Nat) : Int)), (5, v)] ⟨rfl, rfl, rfl, rfl, rfl, rfl, rfl, rfl, trivial⟩ fun a hK => ?_
      refine wp_cond_false (hK.get rfl) ?_
      refine wp_exit (exit_then (exit_then (exit_here 0 ?_)))
      refine wp_seq ?_
      refine region_go (lst := [0, 1, 2, 3, 4, 5, 6, 7, 8]) (by kernel_rfl) ?_
      refine stepM hK 49 5 (by kernel_rfl) (.inl rfl) rfl fun a hK => ?_
      refine stepM hK 50 0 (by kernel_rfl) (.inl rfl) rfl fun a hK => ?_
      refine stepP hK 51 (.int .i64 ((l.length : Nat) : Int)) (by kernel_rfl) (by kernel_rfl) fun a hK => ?_
      refine stepP hK 52 (.agg #[.int .i64 5, Str [], .int .i64 0, .int .i64 ((l.length : Nat) : Int)]) (by kernel_rfl) (by kernel_rfl) fun a hK => ?_
      refine stepAlloc hK hM 53 35 [.int .i64 5, Str [], .int .i64 0, .int .i64 ((l.length : Nat) : Int)] (fun b => .slice (some ⟨b, 0, none⟩) 1 1) (by kernel_rfl) (by kernel_rfl) fun b10 a w hK hM => ?_
      refine stepAppend hK hM 54 1 0 (ety := 35) (size := 4) (m := 1) (news := [.int .i64 5, Str [], .int .i64 0, .int .i64 ((l.length : Nat) : Int)]) Tryd.underlying29 elem_tok (by kernel_rfl) rfl rfl rfl rfl rfl rfl (by kernel_rfl) ⟨by omega, by decide⟩ ?_
      intro v11 a w hK hM
      replace hM := hM.to [.row b10 35 [.int .i64 5, Str [], .int .i64 0, .int .i64 ((l.length : Nat) : Int)], .own 35 4 v11 (ts.length + 1) ((cellsT ts) ++ [.int .i64 5, Str [], .int .i64 0, .int .i64 ((l.length : Nat) : Int)]), .obj b3 kwObj, .row b1 24 [.int .i64 0, .int .i64 0]] (by kernel_rfl)
      refine stepP hK 55 (.agg #[.int .i64 0, .int .i64 0]) (by kernel_rfl) (by kernel_rfl) fun a hK => ?_
      refine stepM hK 2 54 (by kernel_rfl) (.inr rfl) rfl fun a hK => ?_
      refine stepStore hK hM 3 [.int .i64 0, .int .i64 0] (by kernel_rfl) rfl rfl rfl rfl (by kernel_rfl) fun w hM => ?_
      replace hM := hM.to [.row b10 35 [.int .i64 5, Str [], .int .i64 0, .int .i64 ((l.length : Nat) : Int)], .own 35 4 v11 (ts.length + 1) ((cellsT ts) ++ [.int .i64 5, Str [], .int .i64 0, .int .i64 ((l.length : Nat) : Int)]), .obj b3 kwObj, .row b1 24 [.int .i64 0, .int .i64 0]] (by kernel_rfl)
      refine region_done hK [(2, v11), (19, .bool false), (4, .map (some b3)), (11, .bool false), (3, .pointer (some ⟨b1, 0, none⟩)), (0, Str l), (6, .int .i64 ((p : Nat) : Int)), (5, v)] ⟨rfl, rfl, rfl, rfl, rfl, rfl, rfl, rfl, trivial⟩ fun a hK => ?_
      refine wp_ret ?_
      exact ret_tc hK rfl (v := v11) rfl rfl ((hM.row 3 rfl).cells 0 2) (u := (.agg #[.int .i64 0, .int .i64 0])) (by kernel_rfl) (post_good (ts := ts) (by omega) (by rw [hR.2.2.1, show p = l.length by omega, List.drop_length, lexL_nil]; show Sum.inr (ts ++ []) = _; rw [List.append_nil]) ((hM.pick 1 rfl).to _ (by rw [cellsT_snoc, List.length_append]; rfl)))
theorem en_lex_All : Enters Tryd.prog 11 := enters_of Tryd.func11 (by kernel_rfl) rfl
/-- What Word answers. -/
def wordV (l : List UInt8) : Value := match l with
  | [] => .tuple #[.int .i64 0, .bool false]
  | c :: r => if (isLetter c && (c :: r).all wordB) = true then .tuple #[.int .i64 ((kindOf (c :: r) : Nat) : Int), .bool true] else .tuple #[.int .i64 0, .bool false]
theorem runL_lt (l : List UInt8) : runL inWordB l < l.length ↔ l.all wordB = false := by
  rw [inWordB_eq]; unfold runL
  constructor
  · intro h
    cases e : l.all wordB with
    | false => rfl
    | true =>
      rw [takeWhile_all (fun j c _ hc => List.all_eq_true.1 e c (List.mem_of_getElem? hc))] at h
      omega
  · intro h
    have h1 := (List.takeWhile_prefix (p := wordB) (l := l)).length_le
    rcases Nat.lt_or_ge (l.takeWhile wordB).length l.length with h2 | h2
    · exact h2
    · have : l.takeWhile wordB = l := (List.takeWhile_prefix _).eq_of_length (by omega)
      have h3 := List.all_takeWhile (p := wordB) (l := l)
      rw [this, h] at h3; cases h3
section
variable {l : List UInt8} {c : UInt8}
theorem wordV_no1 (hc : l[0]? = some c) (h : isLetter c = false) : wordV l = .tuple #[.int .i64 0, .bool false] := by
  cases l with
  | nil => cases hc
  | cons a r => obtain rfl := Option.some.inj hc; unfold wordV; simp only; rw [h, Bool.false_and, if_neg (by decide)]
theorem wordV_no2 (hc : l[0]? = some c) (h : runL inWordB l < l.length) : wordV l = .tuple #[.int .i64 0, .bool false] := by
  cases l with
  | nil => cases hc
  | cons a r => unfold wordV; simp only; rw [(runL_lt _).1 h, Bool.and_false, if_neg (by decide)]
theorem wordV_yes (hc : l[0]? = some c) (h : isLetter c = true) (h2 : ¬ runL inWordB l < l.length) : wordV l = .tuple #[.int .i64 ((kindOf l : Nat) : Int), .bool true] := by
  cases l with
  | nil => cases hc
  | cons a r =>
    obtain rfl := Option.some.inj hc
    have e : (a :: r).all wordB = true := by
      rcases Bool.eq_false_or_eq_true ((a :: r).all wordB) with h' | h'
      · exact h'
      · exact absurd ((runL_lt _).2 h') h2
    unfold wordV; simp only; rw [h, e, if_pos (by decide)]
end
set_option maxRecDepth 100000 in
set_option maxHeartbeats 4000000 in
theorem lex_Word (l : List UInt8) (hlen : l.length ≤ 4611686018427387904) (w0 : World) : Calls Tryd.prog 8 #[Str l] w0 (Ret w0 (wordV l)) := by
  refine calls_K (args := [Str l]) (n := 22) (env := [(0, Str l)]) Tryd.func8 rfl rfl rfl ⟨rfl, trivial⟩ fun a w hK hM => ?_
  refine wp_seq ?_
  refine region_go (lst := [0, 1]) (by kernel_rfl) ?_
  refine stepP hK 2 (.int .i64 0) (by kernel_rfl) (by kernel_rfl) fun a hK => ?_
  refine stepP hK 3 (.bool false) (by kernel_rfl) (by kernel_rfl) fun a hK => ?_
  refine region_done hK [(3, .bool false), (2, .int .i64 0), (0, Str l)] ⟨rfl, rfl, rfl, trivial⟩ fun a hK => ?_
  refine wp_seq ?_
  refine wp_seq ?_
  refine region_go (lst := [0, 1, 2, 3, 4, 5, 6, 7, 8, 9, 10, 11, 12, 13, 14]) (by kernel_rfl) ?_
  refine stepM hK 4 0 (by kernel_rfl) (.inl rfl) rfl fun a hK => ?_
  by_cases h1 : l = []
  · refine stepP hK 5 (.bool true) (by kernel_rfl) (okBool (b := (decide (l = []))) (run_eqS rfl rfl rfl) (decide_eq_true h1)) fun a hK => ?_
    refine stepM hK 6 5 (by kernel_rfl) (.inl rfl) rfl fun a hK => ?_
    refine stepN hK 7 (by kernel_rfl) fun a hK => ?_
    refine stepN hK 8 (by kernel_rfl) fun a hK => ?_
    refine stepN hK 9 (by kernel_rfl) fun a hK => ?_
    refine stepN hK 10 (by kernel_rfl) fun a hK => ?_
    refine stepP hK 11 (.bool true) (by kernel_rfl) (by kernel_rfl) fun a hK => ?_
    refine stepM hK 12 11 (by kernel_rfl) (.inl rfl) rfl fun a hK => ?_
    refine stepN hK 13 (by kernel_rfl) fun a hK => ?_
    refine stepN hK 14 (by kernel_rfl) fun a hK => ?_
    refine stepN hK 15 (by kernel_rfl) fun a hK => ?_
    refine stepN hK 16 (by kernel_rfl) fun a hK => ?_
    refine stepN hK 17 (by kernel_rfl) fun a hK => ?_
    refine stepP hK 18 (.bool true) (by kernel_rfl) (by kernel_rfl) fun a hK => ?_
    refine region_done hK [(18, .bool true), (3, .bool false), (2, .int .i64 0), (0, Str l)] ⟨rfl, rfl, rfl, rfl, trivial⟩ fun a hK => ?_
    refine wp_cond_true (hK.get rfl) ?_
    refine wp_seq ?_
    refine region_go (lst := [0, 1]) (by kernel_rfl) ?_
    refine stepP hK 2 (.int .i64 0) (by kernel_rfl) (by kernel_rfl) fun a hK => ?_
    refine stepP hK 3 (.bool false) (by kernel_rfl) (by kernel_rfl) fun a hK => ?_
    refine region_done hK [(3, .bool false), (2, .int .i64 0), (18, .bool true), (0, Str l)] ⟨rfl, rfl, rfl, rfl, trivial⟩ fun a hK => ?_
    refine wp_ret ?_
    exact ret_tt hK rfl (u := (.int .i64 0)) (v := (.bool false)) rfl rfl (⟨by rw [h1]; rfl, hM.below⟩)
  · refine stepP hK 5 (.bool false) (by kernel_rfl) (okBool (b := (decide (l = []))) (run_eqS rfl rfl rfl) (decide_eq_false h1)) fun a hK => ?_
    refine stepM hK 6 5 (by kernel_rfl) (.inl rfl) rfl fun a hK => ?_
    refine stepM hK 7 0 (by kernel_rfl) (.inl rfl) rfl fun a hK => ?_
    obtain ⟨c2, hc2⟩ : ∃ c, l[(0 : Nat)]? = some c := ⟨_, List.getElem?_eq_getElem (by have : l.length ≠ 0 := fun e => h1 (List.eq_nil_of_length_eq_zero e); omega)⟩
    refine stepP hK 8 (.int .u8 ((c2.toNat : Nat) : Int)) (by kernel_rfl) (run_idxS (k := 0) rfl rfl rfl hc2) fun a hK => ?_
    rcases Bool.eq_false_or_eq_true (isLetter c2) with h3 | h3
    · refine stepRet hK hM 9 #[.int .u8 ((c2.toNat : Nat) : Int)] (.bool true) (by kernel_rfl) (run_callE en_lex_isLetter rfl rfl (by kernel_rfl)) (ret_eq (lex_isLetter c2 _) (congrArg Value.bool h3)) fun a w hK hM => ?_
      refine stepP hK 10 (.bool false) (by kernel_rfl) (by kernel_rfl) fun a hK => ?_
      refine stepP hK 11 (.bool false) (by kernel_rfl) (by kernel_rfl) fun a hK => ?_
      refine stepM hK 12 11 (by kernel_rfl) (.inl rfl) rfl fun a hK => ?_
      refine stepM hK 13 0 (by kernel_rfl) (.inl rfl) rfl fun a hK => ?_
      refine stepRet hK hM 14 #[Str l, .func (.func 21) #[] #[]] (.int .i64 (((runL inWordB l) : Nat) : Int)) (by kernel_rfl) (run_callE en_lex_run rfl rfl (by kernel_rfl)) (lex_run l (by first | omega | (rw [List.length_drop]; omega) | (rw [List.length_take]; omega) | (rw [List.length_take, List.length_drop]; omega)) _ inWordB en_lex_inWord lex_inWord _) fun a w hK hM => ?_
      refine stepM hK 15 0 (by kernel_rfl) (.inl rfl) rfl fun a hK => ?_
      refine stepP hK 16 (.int .i64 ((l.length : Nat) : Int)) (by kernel_rfl) (by kernel_rfl) fun a hK => ?_
      by_cases h4 : ((((runL inWordB l) : Nat) : Int) : Int) < ((l.length : Nat) : Int)
      · refine stepP hK 17 (.bool true) (by kernel_rfl) (okBool (b := (decide (((((runL inWordB l) : Nat) : Int) : Int) < ((l.length : Nat) : Int)))) (by kernel_rfl) (decide_eq_true h4)) fun a hK => ?_
        refine stepP hK 18 (.bool true) (by kernel_rfl) (by kernel_rfl) fun a hK => ?_
        refine region_done hK [(18, .bool true), (3, .bool false), (2, .int .i64 0), (0, Str l)] ⟨rfl, rfl, rfl, rfl, trivial⟩ fun a hK => ?_
        refine wp_cond_true (hK.get rfl) ?_
        refine wp_seq ?_
        refine region_go (lst := [0, 1]) (by kernel_rfl) ?_
        refine stepP hK 2 (.int .i64 0) (by kernel_rfl) (by kernel_rfl) fun a hK => ?_
        refine stepP hK 3 (.bool false) (by kernel_rfl) (by kernel_rfl) fun a hK => ?_
        refine region_done hK [(3, .bool false), (2, .int .i64 0), (18, .bool true), (0, Str l)] ⟨rfl, rfl, rfl, rfl, trivial⟩ fun a hK => ?_
        refine wp_ret ?_
        exact ret_tt hK rfl (u := (.int .i64 0)) (v := (.bool false)) rfl rfl (⟨by rw [wordV_no2 hc2 (by omega)], hM.below⟩)
      · refine stepP hK 17 (.bool false) (by kernel_rfl) (okBool (b := (decide (((((runL inWordB l) : Nat) : Int) : Int) < ((l.length : Nat) : Int)))) (by kernel_rfl) (decide_eq_false h4)) fun a hK => ?_
        refine stepP hK 18 (.bool false) (by kernel_rfl) (by kernel_rfl) fun a hK => ?_
        refine region_done hK [(18, .bool false), (3, .bool false), (2, .int .i64 0), (0, Str l)] ⟨rfl, rfl, rfl, rfl, trivial⟩ fun a hK => ?_
        refine wp_cond_false (hK.get rfl) ?_
        refine wp_skip ?_
        refine wp_seq ?_
        refine region_go (lst := [0, 1, 2, 3, 4]) (by kernel_rfl) ?_
        refine stepM hK 19 0 (by kernel_rfl) (.inl rfl) rfl fun a hK => ?_
        refine stepCall hK hM 20 #[] (by kernel_rfl) (run_callE en_lex_keywords rfl rfl (by kernel_rfl)) (lex_keywords _) ?_
        rintro b5 a w - hK hM
        refine stepRet hK hM 21 #[Str l, .map (some b5)] (.int .i64 (((kindOf l) : Nat) : Int)) (by kernel_rfl) (run_callE en_lex_wordKind rfl rfl (by kernel_rfl)) (lex_wordKind l _ _ (hM.objlt 0 rfl) (hM.obj 0 rfl)) fun a w hK hM => ?_
        refine stepM hK 2 21 (by kernel_rfl) (.inr rfl) rfl fun a hK => ?_
        refine stepP hK 3 (.bool true) (by kernel_rfl) (by kernel_rfl) fun a hK => ?_
        refine region_done hK [(3, .bool true), (2, .int .i64 (((kindOf l) : Nat) : Int)), (18, .bool false), (0, Str l)] ⟨rfl, rfl, rfl, rfl, trivial⟩ fun a hK => ?_
        refine wp_ret ?_
        exact ret_tt hK rfl (u := (.int .i64 (((kindOf l) : Nat) : Int))) (v := (.bool true)) rfl rfl (⟨by rw [wordV_yes hc2 h3 (by omega)], hM.below⟩)
    · refine stepRet hK hM 9 #[.int .u8 ((c2.toNat : Nat) : Int)] (.bool false) (by kernel_rfl) (run_callE en_lex_isLetter rfl rfl (by kernel_rfl)) (ret_eq (lex_isLetter c2 _) (congrArg Value.bool h3)) fun a w hK hM => ?_
      refine stepP hK 10 (.bool true) (by kernel_rfl) (by kernel_rfl) fun a hK => ?_
      refine stepP hK 11 (.bool true) (by kernel_rfl) (by kernel_rfl) fun a hK => ?_
      refine stepM hK 12 11 (by kernel_rfl) (.inl rfl) rfl fun a hK => ?_
      refine stepN hK 13 (by kernel_rfl) fun a hK => ?_
      refine stepN hK 14 (by kernel_rfl) fun a hK => ?_
      refine stepN hK 15 (by kernel_rfl) fun a hK => ?_
      refine stepN hK 16 (by kernel_rfl) fun a hK => ?_
      refine stepN hK 17 (by kernel_rfl) fun a hK => ?_
      refine stepP hK 18 (.bool true) (by kernel_rfl) (by kernel_rfl) fun a hK => ?_
      refine region_done hK [(18, .bool true), (3, .bool false), (2, .int .i64 0), (0, Str l)] ⟨rfl, rfl, rfl, rfl, trivial⟩ fun a hK => ?_
      refine wp_cond_true (hK.get rfl) ?_
      refine wp_seq ?_
      refine region_go (lst := [0, 1]) (by kernel_rfl) ?_
      refine stepP hK 2 (.int .i64 0) (by kernel_rfl) (by kernel_rfl) fun a hK => ?_
      refine stepP hK 3 (.bool false) (by kernel_rfl) (by kernel_rfl) fun a hK => ?_
      refine region_done hK [(3, .bool false), (2, .int .i64 0), (18, .bool true), (0, Str l)] ⟨rfl, rfl, rfl, rfl, trivial⟩ fun a hK => ?_
      refine wp_ret ?_
      exact ret_tt hK rfl (u := (.int .i64 0)) (v := (.bool false)) rfl rfl (⟨by rw [wordV_no1 hc2 h3], hM.below⟩)
theorem en_lex_Word : Enters Tryd.prog 8 := enters_of Tryd.func8 (by kernel_rfl) rfl
end Go.Proofs.YtbcfggdifljacaaDoor
