/-
  Package lex: what it calls of the library; gap; tokens of their own text.
-/
import Derived.Test.YtbcfggdifljacaaDoorLpB
import Derived.Test.YtbcfggdifljacaaDoorTok
import Derived.Test.YtbcfggdifljacaaDoorShelf
namespace Go.Proofs.YtbcfggdifljacaaDoor
open Go Go.RowKit

theorem lib_HasPrefix (l q : List UInt8) (w0 : World) : Calls Tryd.prog 38 #[Str l, Str q] w0 (Ret w0 (.bool (q.isPrefixOf l))) := by
  refine (Tryd.strings_HasPrefix ⟨l.toArray⟩ ⟨q.toArray⟩ w0).mono ?_
  rintro e w' ⟨rfl, rfl⟩
  exact ⟨rfl, Below.refl _ _⟩
theorem lib_Clone (l : List UInt8) (w0 : World) (h : l.length ≤ 281474976710656) : Calls Tryd.prog 57 #[Str l] w0 (Ret w0 (Str l)) := Tryd.stringslite_Clone ⟨l.toArray⟩ w0 h
/-- strconv.ErrRange holds an error. -/
def ErrOk (w : World) : Prop := ∃ te pe, w.cell? ⟨2, 0, none⟩ = some (.iface te pe)
theorem ErrOk.on {w w' : World} (h : ErrOk w) (hb : Below w.heap.size w w') : ErrOk w' := by
  obtain ⟨te, pe, h⟩ := h
  refine ⟨te, pe, ?_⟩
  have hlt : (2 : Nat) < w.heap.size := by
    rcases Nat.lt_or_ge (2 : Nat) w.heap.size with h' | h'
    · exact h'
    · unfold World.cell? at h; rw [Array.getElem?_eq_none h'] at h; cases h
  rw [hb.cell (p := ⟨2, 0, none⟩) hlt, h]
theorem lib_ParseInt_ok (l : List UInt8) (v : Int) (w0 : World) (hl : l.length ≤ 281474976710656) (h : Lib.parseIntB 64 l = .ok v) : Calls Tryd.prog 53 #[Str l, .int .i64 10, .int .i64 64] w0 (Ret w0 (.tuple #[.int .i64 v, .nilIface])) := by
  refine (Tryd.strconv_ParseInt_10_at64_ok ⟨l.toArray⟩ (by show l.toArray.size ≤ _; simp; omega) v h w0).mono ?_
  rintro e w' ⟨rfl, rfl | ⟨t, rfl⟩⟩
  · exact ⟨rfl, Below.refl _ _⟩
  · exact ⟨rfl, Lib.bytesWorld_below _ _ _⟩
theorem lib_ParseInt_range (l : List UInt8) (w0 : World) (hE : ErrOk w0) (hl : l.length ≤ 281474976710656) (h : Lib.parseIntB 64 l = .range) : Calls Tryd.prog 53 #[Str l, .int .i64 10, .int .i64 64] w0 (Gives w0 (fun N : Nat => .tuple #[.int .i64 (Lib.intSat 64 l), .iface 83 (.pointer (some ⟨N, 0, none⟩))]) (fun _ => []) fun _ => True) := by
  obtain ⟨te, pe, he⟩ := hE
  refine (Tryd.strconv_ParseInt_10_at64_range ⟨l.toArray⟩ hl h (.iface te pe) w0 he (.inr ⟨te, pe, rfl⟩)).mono ?_
  rintro e w' ⟨N, rfl, _, _, hb⟩
  exact ⟨N, rfl, (Mem.start w0).go hb, trivial⟩
theorem en_strings_HasPrefix : Enters Tryd.prog 38 := enters_of Tryd.func38 (by kernel_rfl) rfl
theorem en_stringslite_Clone : Enters Tryd.prog 57 := enters_of Tryd.func57 (by kernel_rfl) rfl
theorem en_strconv_ParseInt : Enters Tryd.prog 53 := enters_of Tryd.func53 (by kernel_rfl) rfl
set_option maxRecDepth 100000 in
set_option maxHeartbeats 4000000 in
theorem lib_strings_Clone (l : List UInt8) (hlen : l.length ≤ 65536) (w0 : World) : Calls Tryd.prog 52 #[Str l] w0 (Ret w0 (Str l)) := by
  refine calls_K (args := [Str l]) (n := 5) (env := [(0, Str l)]) Tryd.func52 rfl rfl rfl ⟨rfl, trivial⟩ fun a w hK hM => ?_
  refine wp_seq ?_
  refine region_go (lst := [0]) (by kernel_rfl) ?_
  refine stepP hK 2 (Str []) (by kernel_rfl) (by kernel_rfl) fun a hK => ?_
  refine region_done hK [(2, Str []), (0, Str l)] ⟨rfl, rfl, trivial⟩ fun a hK => ?_
  refine wp_seq ?_
  refine region_go (lst := [0, 1, 2]) (by kernel_rfl) ?_
  refine stepM hK 3 0 (by kernel_rfl) (.inl rfl) rfl fun a hK => ?_
  refine stepRet hK hM 4 #[Str l] (Str l) (by kernel_rfl) (run_callE en_stringslite_Clone rfl rfl (by kernel_rfl)) (lib_Clone l _ (by first | omega | (rw [List.length_drop]; omega) | (rw [List.length_take]; omega) | (rw [List.length_take, List.length_drop]; omega))) fun a w hK hM => ?_
  refine stepM hK 2 4 (by kernel_rfl) (.inr rfl) rfl fun a hK => ?_
  refine region_done hK [(2, Str l), (0, Str l)] ⟨rfl, rfl, trivial⟩ fun a hK => ?_
  refine wp_ret ?_
  exact ret_t hK rfl (u := (Str l)) rfl (⟨rfl, hM.below⟩)
theorem en_strings_Clone : Enters Tryd.prog 52 := enters_of Tryd.func52 (by kernel_rfl) rfl
/-- How many bytes to skip at a beginning where no token stands: a blank, a remark. -/
def skip1 (r : List UInt8) : Option Nat := match r with
  | [] => none
  | c :: _ => if isBlankB c = true then some 1 else if List.isPrefixOf [47, 47] r = true then some (runL inLineB r) else none
def gapF : Nat → List UInt8 → Nat
  | 0, _ => 0
  | n + 1, r => match skip1 r with
    | some k => k + gapF n (r.drop k)
    | none => 0
/-- Blanks and remarks at a text's beginning. -/
def gapL (l : List UInt8) : Nat := gapF l.length l
theorem skip1_pos {r : List UInt8} {k : Nat} (h : skip1 r = some k) : 1 ≤ k ∧ k ≤ r.length := by
  unfold skip1 at h
  split at h
  · cases h
  · rename_i c r'
    split at h
    · obtain rfl := Option.some.inj h; simp
    · split at h
      · rename_i hp
        obtain rfl := Option.some.inj h
        refine ⟨?_, runL_le _ _⟩
        rw [List.isPrefixOf_iff_prefix] at hp
        obtain ⟨q, hq⟩ := hp
        rw [← hq]
        unfold runL
        rw [List.cons_append, List.takeWhile_cons, if_pos (by decide)]
        simp
      · cases h
theorem gapF_more : ∀ (n m : Nat) (r : List UInt8), r.length ≤ n → r.length ≤ m → gapF n r = gapF m r := by
  intro n
  induction n with
  | zero =>
    intro m r h _
    obtain rfl : r = [] := List.eq_nil_of_length_eq_zero (by omega)
    cases m <;> rfl
  | succ n ih =>
    intro m r h1 h2
    cases m with
    | zero =>
      obtain rfl : r = [] := List.eq_nil_of_length_eq_zero (by omega)
      rfl
    | succ m =>
      show (match skip1 r with | some k => k + gapF n (r.drop k) | none => 0) = match skip1 r with | some k => k + gapF m (r.drop k) | none => 0
      cases h : skip1 r with
      | none => rfl
      | some k =>
        have := skip1_pos h
        simp only
        rw [ih m (r.drop k) (by simp; omega) (by simp; omega)]
theorem gapL_skip {r : List UInt8} {k : Nat} (h : skip1 r = some k) : gapL r = k + gapL (r.drop k) := by
  have hp := skip1_pos h
  unfold gapL
  rw [gapF_more (r.drop k).length (r.length - 1) _ (by simp) (by simp; omega)]
  cases hl : r.length with
  | zero => omega
  | succ n => show (match skip1 r with | some k => k + gapF n (r.drop k) | none => 0) = _; rw [h]; rfl
theorem gapL_stop {r : List UInt8} (h : skip1 r = none) : gapL r = 0 := by
  unfold gapL
  cases hl : r.length with
  | zero => rfl
  | succ n => show (match skip1 r with | some k => k + gapF n (r.drop k) | none => 0) = _; rw [h]
theorem gapL_le (r : List UInt8) : gapL r ≤ r.length := by
  have : ∀ (n : Nat) (r : List UInt8), gapF n r ≤ r.length := by
    intro n
    induction n with
    | zero => intro r; exact Nat.zero_le _
    | succ n ih =>
      intro r
      show (match skip1 r with | some k => k + gapF n (r.drop k) | none => 0) ≤ _
      cases h : skip1 r with
      | none => exact Nat.zero_le _
      | some k =>
        have h1 := skip1_pos h
        have h2 := ih (r.drop k)
        rw [List.length_drop] at h2
        simp only; omega
  exact this _ _
theorem skip1_blank {l : List UInt8} {k : Nat} {c : UInt8} (hc : l[k]? = some c) (hb : isBlankB c = true) : skip1 (l.drop k) = some 1 := by
  obtain ⟨hk, rfl⟩ := List.getElem?_eq_some_iff.1 hc
  rw [List.drop_eq_getElem_cons hk]; unfold skip1; simp only; rw [if_pos hb]
theorem skip1_remark {l : List UInt8} {k : Nat} {c : UInt8} (hc : l[k]? = some c) (hb : isBlankB c = false) (hp : List.isPrefixOf [47, 47] (l.drop k) = true) : skip1 (l.drop k) = some (runL inLineB (l.drop k)) := by
  obtain ⟨hk, rfl⟩ := List.getElem?_eq_some_iff.1 hc
  rw [List.drop_eq_getElem_cons hk] at hp ⊢; unfold skip1; simp only; rw [if_neg (by rw [hb]; decide), if_pos hp]
theorem skip1_token {l : List UInt8} {k : Nat} {c : UInt8} (hc : l[k]? = some c) (hb : isBlankB c = false) (hp : List.isPrefixOf [47, 47] (l.drop k) = false) : skip1 (l.drop k) = none := by
  obtain ⟨hk, rfl⟩ := List.getElem?_eq_some_iff.1 hc
  rw [List.drop_eq_getElem_cons hk] at hp ⊢; unfold skip1; simp only; rw [if_neg (by rw [hb]; decide), if_neg (by rw [hp]; decide)]
set_option maxRecDepth 100000 in
set_option maxHeartbeats 4000000 in
theorem lex_gap (l : List UInt8) (hlen : l.length ≤ 4611686018427387904) (w0 : World) : Calls Tryd.prog 24 #[Str l] w0 (Ret w0 (.int .i64 ((gapL l : Nat) : Int))) := by
  refine calls_K (args := [Str l]) (n := 28) (env := [(0, Str l)]) Tryd.func24 rfl rfl rfl ⟨rfl, trivial⟩ fun a w hK hM => ?_
  refine wp_seq ?_
  refine region_go (lst := [0]) (by kernel_rfl) ?_
  refine stepP hK 2 (.int .i64 0) (by kernel_rfl) (by kernel_rfl) fun a hK => ?_
  refine region_done hK [(2, .int .i64 0), (0, Str l)] ⟨rfl, rfl, trivial⟩ fun a hK => ?_
  refine wp_seq ?_
  refine region_go (lst := [0]) (by kernel_rfl) ?_
  refine stepP hK 3 (.int .i64 0) (by kernel_rfl) (by kernel_rfl) fun a hK => ?_
  refine region_done hK [(3, .int .i64 0), (2, .int .i64 0), (0, Str l)] ⟨rfl, rfl, rfl, trivial⟩ fun a hK => ?_
  refine wp_seq ?_
  refine wp_block ?_
  refine wp_loopX (fun x : Nat => [(2, .int .i64 0), (0, Str l), (3, .int .i64 ((x : Nat) : Int))]) (fun x : Nat => []) (fun x : Nat => x ≤ l.length ∧ gapL l = x + gapL (l.drop x)) (fun x : Nat => l.length - x) 0 (hK.sub ⟨rfl, rfl, rfl, trivial⟩) hM ⟨Nat.zero_le _, by simp⟩ ?_
  rintro k a w hK hM hR
  replace hK : Knows a 28 [(2, .int .i64 0), (0, Str l), (3, .int .i64 ((k : Nat) : Int))] := hK
  replace hM : Mem w0 w [] := hM
  replace hR : k ≤ l.length ∧ gapL l = k + gapL (l.drop k) := hR
  refine wp_seq ?_
  refine wp_seq ?_
  refine region_go (lst := [0, 1, 2, 3]) (by kernel_rfl) ?_
  refine stepM hK 4 3 (by kernel_rfl) (.inl rfl) rfl fun a hK => ?_
  refine stepM hK 5 0 (by kernel_rfl) (.inl rfl) rfl fun a hK => ?_
  refine stepP hK 6 (.int .i64 ((l.length : Nat) : Int)) (by kernel_rfl) (by kernel_rfl) fun a hK => ?_
  by_cases h1 : (((k : Nat) : Int) : Int) < ((l.length : Nat) : Int)
  · refine stepP hK 7 (.bool true) (by kernel_rfl) (okBool (b := (decide ((((k : Nat) : Int) : Int) < ((l.length : Nat) : Int)))) (by kernel_rfl) (decide_eq_true h1)) fun a hK => ?_
    refine region_done hK [(7, .bool true), (2, .int .i64 0), (0, Str l), (3, .int .i64 ((k : Nat) : Int))] ⟨rfl, rfl, rfl, rfl, trivial⟩ fun a hK => ?_
    refine wp_cond_true (hK.get rfl) ?_
    refine wp_skip ?_
    refine wp_block ?_
    refine wp_block ?_
    refine wp_seq ?_
    refine region_go (lst := [0, 1, 2, 3, 4]) (by kernel_rfl) ?_
    refine stepM hK 10 0 (by kernel_rfl) (.inl rfl) rfl fun a hK => ?_
    refine stepM hK 11 3 (by kernel_rfl) (.inl rfl) rfl fun a hK => ?_
    obtain ⟨c2, hc2⟩ : ∃ c, l[(k : Nat)]? = some c := ⟨_, List.getElem?_eq_getElem (by omega)⟩
    refine stepP hK 12 (.int .u8 ((c2.toNat : Nat) : Int)) (by kernel_rfl) (run_idxS (k := k) rfl rfl rfl hc2) fun a hK => ?_
    rcases Bool.eq_false_or_eq_true (isBlankB c2) with h3 | h3
    · refine stepRet hK hM 13 #[.int .u8 ((c2.toNat : Nat) : Int)] (.bool true) (by kernel_rfl) (run_callE en_lex_isBlank rfl rfl (by kernel_rfl)) (ret_eq (lex_isBlank c2 _) (congrArg Value.bool h3)) fun a w hK hM => ?_
      refine stepM hK 9 13 (by kernel_rfl) (.inr rfl) rfl fun a hK => ?_
      refine region_done hK [(9, .bool true), (7, .bool true), (2, .int .i64 0), (0, Str l), (3, .int .i64 ((k : Nat) : Int))] ⟨rfl, rfl, rfl, rfl, rfl, trivial⟩ fun a hK => ?_
      refine wp_cond_true (hK.get rfl) ?_
      refine region_go (lst := [0, 1, 2]) (by kernel_rfl) ?_
      refine stepM hK 14 3 (by kernel_rfl) (.inl rfl) rfl fun a hK => ?_
      refine stepP hK 15 (.int .i64 (((k + 1) : Nat) : Int)) (by kernel_rfl) (run_addN (i := k) (j := 1) rfl rfl rfl (by omega)) fun a hK => ?_
      refine stepM hK 3 15 (by kernel_rfl) (.inr rfl) rfl fun a hK => ?_
      refine region_done hK [(3, .int .i64 (((k + 1) : Nat) : Int)), (9, .bool true), (7, .bool true), (2, .int .i64 0), (0, Str l)] ⟨rfl, rfl, rfl, rfl, rfl, trivial⟩ fun a hK => ?_
      have hsk := skip1_blank hc2 h3
      have hnew : gapL l = k + 1 + gapL (l.drop (k + 1)) := by rw [hR.2, gapL_skip hsk, List.drop_drop]; omega
      have hRn : (k + 1) ≤ l.length ∧ gapL l = (k + 1) + gapL (l.drop (k + 1)) := ⟨by omega, hnew⟩
      have hmn : l.length - (k + 1) < l.length - k := by omega
      exact ⟨k + 1, hK.sub ⟨rfl, rfl, rfl, trivial⟩, hM, hRn, hmn⟩
    · refine stepRet hK hM 13 #[.int .u8 ((c2.toNat : Nat) : Int)] (.bool false) (by kernel_rfl) (run_callE en_lex_isBlank rfl rfl (by kernel_rfl)) (ret_eq (lex_isBlank c2 _) (congrArg Value.bool h3)) fun a w hK hM => ?_
      refine stepM hK 9 13 (by kernel_rfl) (.inr rfl) rfl fun a hK => ?_
      refine region_done hK [(9, .bool false), (7, .bool true), (2, .int .i64 0), (0, Str l), (3, .int .i64 ((k : Nat) : Int))] ⟨rfl, rfl, rfl, rfl, rfl, trivial⟩ fun a hK => ?_
      refine wp_cond_false (hK.get rfl) ?_
      refine wp_seq ?_
      refine region_go (lst := [0, 1, 2, 3, 4]) (by kernel_rfl) ?_
      refine stepM hK 17 0 (by kernel_rfl) (.inl rfl) rfl fun a hK => ?_
      refine stepM hK 18 3 (by kernel_rfl) (.inl rfl) rfl fun a hK => ?_
      refine stepP hK 19 (Str (l.drop k)) (by kernel_rfl) (run_slcLo (i := k) rfl rfl rfl (by omega)) fun a hK => ?_
      rcases Bool.eq_false_or_eq_true (List.isPrefixOf [47, 47] (l.drop k)) with h4 | h4
      · refine stepRet hK hM 20 #[Str (l.drop k), Str [47, 47]] (.bool true) (by kernel_rfl) (run_callE en_strings_HasPrefix rfl rfl (by kernel_rfl)) (ret_eq (lib_HasPrefix (l.drop k) [47, 47] _) (congrArg Value.bool h4)) fun a w hK hM => ?_
        refine stepM hK 16 20 (by kernel_rfl) (.inr rfl) rfl fun a hK => ?_
        refine region_done hK [(16, .bool true), (9, .bool false), (7, .bool true), (2, .int .i64 0), (0, Str l), (3, .int .i64 ((k : Nat) : Int))] ⟨rfl, rfl, rfl, rfl, rfl, rfl, trivial⟩ fun a hK => ?_
        refine wp_cond_true (hK.get rfl) ?_
        refine region_go (lst := [0, 1, 2, 3, 4, 5, 6]) (by kernel_rfl) ?_
        refine stepM hK 21 3 (by kernel_rfl) (.inl rfl) rfl fun a hK => ?_
        refine stepM hK 22 0 (by kernel_rfl) (.inl rfl) rfl fun a hK => ?_
        refine stepM hK 23 3 (by kernel_rfl) (.inl rfl) rfl fun a hK => ?_
        refine stepP hK 24 (Str (l.drop k)) (by kernel_rfl) (run_slcLo (i := k) rfl rfl rfl (by omega)) fun a hK => ?_
        refine stepRet hK hM 25 #[Str (l.drop k), .func (.func 39) #[] #[]] (.int .i64 (((runL inLineB (l.drop k)) : Nat) : Int)) (by kernel_rfl) (run_callE en_lex_run rfl rfl (by kernel_rfl)) (lex_run (l.drop k) (by first | omega | (rw [List.length_drop]; omega) | (rw [List.length_take]; omega) | (rw [List.length_take, List.length_drop]; omega)) _ inLineB en_lex_inLine lex_inLine _) fun a w hK hM => ?_
        refine stepP hK 26 (.int .i64 (((k + (runL inLineB (l.drop k))) : Nat) : Int)) (by kernel_rfl) (run_addN (i := k) (j := (runL inLineB (l.drop k))) rfl rfl rfl (by have := runL_le inLineB (l.drop k); rw [List.length_drop] at this; omega)) fun a hK => ?_
        refine stepM hK 3 26 (by kernel_rfl) (.inr rfl) rfl fun a hK => ?_
        refine region_done hK [(3, .int .i64 (((k + (runL inLineB (l.drop k))) : Nat) : Int)), (16, .bool true), (9, .bool false), (7, .bool true), (2, .int .i64 0), (0, Str l)] ⟨rfl, rfl, rfl, rfl, rfl, rfl, trivial⟩ fun a hK => ?_
        have hsk := skip1_remark hc2 h3 h4
        have hps := skip1_pos hsk
        rw [List.length_drop] at hps
        have hnew : gapL l = k + runL inLineB (l.drop k) + gapL (l.drop (k + runL inLineB (l.drop k))) := by rw [hR.2, gapL_skip hsk, List.drop_drop]; omega
        have hRn : (k + runL inLineB (l.drop k)) ≤ l.length ∧ gapL l = (k + runL inLineB (l.drop k)) + gapL (l.drop (k + runL inLineB (l.drop k))) := ⟨by omega, hnew⟩
        have hmn : l.length - (k + runL inLineB (l.drop k)) < l.length - k := by omega
        exact ⟨k + runL inLineB (l.drop k), hK.sub ⟨rfl, rfl, rfl, trivial⟩, hM, hRn, hmn⟩
      · refine stepRet hK hM 20 #[Str (l.drop k), Str [47, 47]] (.bool false) (by kernel_rfl) (run_callE en_strings_HasPrefix rfl rfl (by kernel_rfl)) (ret_eq (lib_HasPrefix (l.drop k) [47, 47] _) (congrArg Value.bool h4)) fun a w hK hM => ?_
        refine stepM hK 16 20 (by kernel_rfl) (.inr rfl) rfl fun a hK => ?_
        refine region_done hK [(16, .bool false), (9, .bool false), (7, .bool true), (2, .int .i64 0), (0, Str l), (3, .int .i64 ((k : Nat) : Int))] ⟨rfl, rfl, rfl, rfl, rfl, rfl, trivial⟩ fun a hK => ?_
        refine wp_cond_false (hK.get rfl) ?_
        refine wp_seq ?_
        refine region_go (lst := [0, 1]) (by kernel_rfl) ?_
        refine stepM hK 8 3 (by kernel_rfl) (.inl rfl) rfl fun a hK => ?_
        refine stepM hK 2 8 (by kernel_rfl) (.inr rfl) rfl fun a hK => ?_
        refine region_done hK [(2, .int .i64 ((k : Nat) : Int)), (16, .bool false), (9, .bool false), (7, .bool true), (0, Str l), (3, .int .i64 ((k : Nat) : Int))] ⟨rfl, rfl, rfl, rfl, rfl, rfl, trivial⟩ fun a hK => ?_
        refine wp_ret ?_
        exact ret_t hK rfl (u := (.int .i64 ((k : Nat) : Int))) rfl (⟨congrArg (fun q : Nat => Ending.returned (.int .i64 (q : Int))) (by rw [hR.2, gapL_stop (skip1_token hc2 h3 h4)]; omega), hM.below⟩)
  · refine stepP hK 7 (.bool false) (by kernel_rfl) (okBool (b := (decide ((((k : Nat) : Int) : Int) < ((l.length : Nat) : Int)))) (by kernel_rfl) (decide_eq_false h1)) fun a hK => ?_
    refine region_done hK [(7, .bool false), (2, .int .i64 0), (0, Str l), (3, .int .i64 ((k : Nat) : Int))] ⟨rfl, rfl, rfl, rfl, trivial⟩ fun a hK => ?_
    refine wp_cond_false (hK.get rfl) ?_
    refine wp_exit (exit_then (exit_then (exit_here 0 ?_)))
    refine wp_seq ?_
    refine region_go (lst := [0, 1]) (by kernel_rfl) ?_
    refine stepM hK 27 3 (by kernel_rfl) (.inl rfl) rfl fun a hK => ?_
    refine stepM hK 2 27 (by kernel_rfl) (.inr rfl) rfl fun a hK => ?_
    refine region_done hK [(2, .int .i64 ((k : Nat) : Int)), (7, .bool false), (0, Str l), (3, .int .i64 ((k : Nat) : Int))] ⟨rfl, rfl, rfl, rfl, trivial⟩ fun a hK => ?_
    refine wp_ret ?_
    exact ret_t hK rfl (u := (.int .i64 ((k : Nat) : Int))) rfl (⟨congrArg (fun q : Nat => Ending.returned (.int .i64 (q : Int))) (by rw [hR.2, show k = l.length by omega, List.drop_length]; rfl), hM.below⟩)
theorem en_lex_gap : Enters Tryd.prog 24 := enters_of Tryd.func24 (by kernel_rfl) rfl
set_option maxRecDepth 100000 in
set_option maxHeartbeats 4000000 in
theorem lex_token (k : Int) (l : List UInt8) (hlen : l.length ≤ 65536) (w0 : World) : Calls Tryd.prog 40 #[.int .i64 k, Str l] w0 (Ret w0 (.agg #[.int .i64 k, Str l, .int .i64 0, .int .i64 0])) := by
  refine calls_K (args := [.int .i64 k, Str l]) (n := 9) (env := [(0, .int .i64 k), (1, Str l)]) Tryd.func40 rfl rfl rfl ⟨rfl, rfl, trivial⟩ fun a w hK hM => ?_
  refine wp_seq ?_
  refine region_go (lst := [0]) (by kernel_rfl) ?_
  refine stepAlloc hK hM 4 35 [.int .i64 0, Str [], .int .i64 0, .int .i64 0] (fun b => .pointer (some ⟨b, 0, none⟩)) (by kernel_rfl) (by kernel_rfl) fun b1 a w hK hM => ?_
  refine region_done hK [(4, .pointer (some ⟨b1, 0, none⟩)), (0, .int .i64 k), (1, Str l)] ⟨rfl, rfl, rfl, trivial⟩ fun a hK => ?_
  refine wp_seq ?_
  refine region_go (lst := [0, 1, 2, 3, 4]) (by kernel_rfl) ?_
  refine stepM hK 5 0 (by kernel_rfl) (.inl rfl) rfl fun a hK => ?_
  refine stepM hK 6 1 (by kernel_rfl) (.inl rfl) rfl fun a hK => ?_
  refine stepRet hK hM 7 #[Str l] (Str l) (by kernel_rfl) (run_callE en_strings_Clone rfl rfl (by kernel_rfl)) (lib_strings_Clone l (by first | omega | (rw [List.length_drop]; omega) | (rw [List.length_take]; omega) | (rw [List.length_take, List.length_drop]; omega)) _) fun a w hK hM => ?_
  refine stepP hK 8 (.agg #[.int .i64 k, Str l, .int .i64 0, .int .i64 0]) (by kernel_rfl) (by kernel_rfl) fun a hK => ?_
  refine stepStore hK hM 0 [.int .i64 k, Str l, .int .i64 0, .int .i64 0] (by kernel_rfl) rfl rfl rfl rfl (by kernel_rfl) fun w hM => ?_
  replace hM := hM.to [.row b1 35 [.int .i64 k, Str l, .int .i64 0, .int .i64 0]] (by kernel_rfl)
  refine region_done hK [(4, .pointer (some ⟨b1, 0, none⟩)), (0, .int .i64 k), (1, Str l)] ⟨rfl, rfl, rfl, trivial⟩ fun a hK => ?_
  refine wp_ret ?_
  exact ret_c hK rfl rfl ((hM.row 0 rfl).cells 0 4) (u := (.agg #[.int .i64 k, Str l, .int .i64 0, .int .i64 0])) (by kernel_rfl) (⟨rfl, hM.below⟩)
theorem en_lex_token : Enters Tryd.prog 40 := enters_of Tryd.func40 (by kernel_rfl) rfl
end Go.Proofs.YtbcfggdifljacaaDoor
