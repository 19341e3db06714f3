/-
  The document's answer: All.
-/
import Derived.Test.YtbcfggdifljacaaDoorLpF
import Derived.Test.YtbcfggdifljacaaDoorDrawn
namespace Go.Proofs.YtbcfggdifljacaaDoor
open Go Go.RowKit

theorem isBlank_eq (c : UInt8) : isBlank c = isBlankB c := rfl
theorem byte_eq {c : UInt8} {n : Nat} (hn : n < 256) (h : ((c.toNat : Nat) : Int) = (n : Int)) : c = UInt8.ofNat n := by
  have h' : c.toNat = n := by omega
  apply UInt8.toNat_inj.1
  rw [h']; simp; omega
section
variable {l : List UInt8} {p : Nat} {c d : UInt8}
theorem two_yes (hc : l[p]? = some c) (hd : l[p + 1]? = some d) (h1 : ((c.toNat : Nat) : Int) = 47) (h2 : ((d.toNat : Nat) : Int) = 47) : List.isPrefixOf [47, 47] (l.drop p) = true := by
  obtain ⟨hk, rfl⟩ := List.getElem?_eq_some_iff.1 hc
  obtain ⟨hk2, rfl⟩ := List.getElem?_eq_some_iff.1 hd
  rw [List.drop_eq_getElem_cons hk, List.drop_eq_getElem_cons hk2, byte_eq (n := 47) (by decide) h1, byte_eq (n := 47) (by decide) h2]; rfl
theorem two_no1 (hc : l[p]? = some c) (h1 : ¬ ((c.toNat : Nat) : Int) = 47) : List.isPrefixOf [47, 47] (l.drop p) = false := by
  obtain ⟨hk, rfl⟩ := List.getElem?_eq_some_iff.1 hc
  rw [List.drop_eq_getElem_cons hk]
  have : (47 == l[p]) = false := by
    rw [beq_eq_false_iff_ne]; intro e; rw [← e] at h1; exact h1 (by decide)
  show ((47 == l[p]) && _) = false
  rw [this]; rfl
theorem two_no2 (h : ¬ (p + 1 < l.length)) : List.isPrefixOf [47, 47] (l.drop p) = false := by
  rw [← Bool.not_eq_true, List.isPrefixOf_iff_prefix]
  intro e
  have := e.length_le
  simp at this; omega
theorem two_no3 (hc : l[p]? = some c) (hd : l[p + 1]? = some d) (h1 : ¬ ((d.toNat : Nat) : Int) = 47) : List.isPrefixOf [47, 47] (l.drop p) = false := by
  obtain ⟨hk, rfl⟩ := List.getElem?_eq_some_iff.1 hc
  obtain ⟨hk2, rfl⟩ := List.getElem?_eq_some_iff.1 hd
  rw [List.drop_eq_getElem_cons hk, List.drop_eq_getElem_cons hk2]
  have : (47 == l[p + 1]) = false := by
    rw [beq_eq_false_iff_ne]; intro e; rw [← e] at h1; exact h1 (by decide)
  show ((47 == l[p]) && ((47 == l[p + 1]) && _)) = false
  rw [this]; simp
end
theorem run_to {l : List UInt8} {p q : Nat} {f : UInt8 → Bool} (hpq : p ≤ q) (hq : q ≤ l.length) (h : ∀ (j : Nat) (c : UInt8), p ≤ j → j < q → l[j]? = some c → f c = true) (hend : ∀ c, l[q]? = some c → f c = false) : q = p + runL f (l.drop p) := by
  have := take_of_all (P := f) (l.drop p) (q - p) (by simp; omega) (fun j c hj hc => h (p + j) c (by omega) (by omega) (by rwa [List.getElem?_drop] at hc)) (fun c hc => hend c (by rw [List.getElem?_drop, show p + (q - p) = q by omega] at hc; exact hc))
  have h2 := congrArg List.length this
  unfold runL
  rw [← h2, List.length_take, List.length_drop]; omega
theorem nl_no {c : UInt8} (h : (!(decide ((((c.toNat : Nat) : Int) : Int) = 10))) = true) : inLineB c = true := h
theorem nl_yes {c : UInt8} (h : (!(decide ((((c.toNat : Nat) : Int) : Int) = 10))) = false) : inLineB c = false := h
set_option maxRecDepth 100000 in
set_option maxHeartbeats 4000000 in
theorem ref_All (l : List UInt8) (w0 : World) (hlen : l.length ≤ 4611686018427387904) : Calls Tryd.prog 12 #[Str l] w0 (AllPost l w0) := by
  refine calls_K (args := [Str l]) (n := 78) (env := [(0, Str l)]) Tryd.func12 rfl rfl rfl ⟨rfl, trivial⟩ fun a w hK hM => ?_
  refine wp_seq ?_
  refine region_go (lst := [0, 1]) (by kernel_rfl) ?_
  refine stepP hK 2 (.slice none 0 0) (by kernel_rfl) (by kernel_rfl) fun a hK => ?_
  refine stepAlloc hK hM 3 24 [.int .i64 0, .int .i64 0] (fun b => .pointer (some ⟨b, 0, none⟩)) (by kernel_rfl) (by kernel_rfl) fun b1 a w hK hM => ?_
  refine region_done hK [(3, .pointer (some ⟨b1, 0, none⟩)), (2, .slice none 0 0), (0, Str l)] ⟨rfl, rfl, rfl, trivial⟩ fun a hK => ?_
  refine wp_seq ?_
  refine wp_seq ?_
  refine region_go (lst := [0, 1, 2]) (by kernel_rfl) ?_
  refine stepM hK 8 0 (by kernel_rfl) (.inl rfl) rfl fun a hK => ?_
  refine stepP hK 9 (.int .i64 ((l.length : Nat) : Int)) (by kernel_rfl) (by kernel_rfl) fun a hK => ?_
  by_cases h2 : (65536 : Int) < ((l.length : Nat) : Int)
  · refine stepP hK 10 (.bool true) (by kernel_rfl) (okBool (b := (decide ((65536 : Int) < ((l.length : Nat) : Int)))) (by kernel_rfl) (decide_eq_true h2)) fun a hK => ?_
    refine region_done hK [(10, .bool true), (3, .pointer (some ⟨b1, 0, none⟩)), (2, .slice none 0 0), (0, Str l)] ⟨rfl, rfl, rfl, rfl, trivial⟩ fun a hK => ?_
    refine wp_cond_true (hK.get rfl) ?_
    refine wp_seq ?_
    refine region_go (lst := [0, 1, 2]) (by kernel_rfl) ?_
    refine stepP hK 11 (.agg #[.int .i64 3, .int .i64 0]) (by kernel_rfl) (by kernel_rfl) fun a hK => ?_
    refine stepP hK 2 (.slice none 0 0) (by kernel_rfl) (by kernel_rfl) fun a hK => ?_
    refine stepStore hK hM 0 [.int .i64 3, .int .i64 0] (by kernel_rfl) rfl rfl rfl rfl (by kernel_rfl) fun w hM => ?_
    replace hM := hM.to [.row b1 24 [.int .i64 3, .int .i64 0]] (by kernel_rfl)
    refine region_done hK [(2, .slice none 0 0), (10, .bool true), (3, .pointer (some ⟨b1, 0, none⟩)), (0, Str l)] ⟨rfl, rfl, rfl, rfl, trivial⟩ fun a hK => ?_
    refine wp_ret ?_
    exact ret_tc hK rfl (v := (.slice none 0 0)) rfl rfl ((hM.row 0 rfl).cells 0 2) (u := (.agg #[.int .i64 3, .int .i64 0])) (by kernel_rfl) (post_long (by omega) ⟨rfl, hM.below⟩)
  · refine stepP hK 10 (.bool false) (by kernel_rfl) (okBool (b := (decide ((65536 : Int) < ((l.length : Nat) : Int)))) (by kernel_rfl) (decide_eq_false h2)) fun a hK => ?_
    refine region_done hK [(10, .bool false), (3, .pointer (some ⟨b1, 0, none⟩)), (2, .slice none 0 0), (0, Str l)] ⟨rfl, rfl, rfl, rfl, trivial⟩ fun a hK => ?_
    refine wp_cond_false (hK.get rfl) ?_
    refine wp_skip ?_
    refine wp_seq ?_
    refine region_go (lst := [0]) (by kernel_rfl) ?_
    refine stepP hK 4 (.slice none 0 0) (by kernel_rfl) (by kernel_rfl) fun a hK => ?_
    refine region_done hK [(4, .slice none 0 0), (10, .bool false), (3, .pointer (some ⟨b1, 0, none⟩)), (2, .slice none 0 0), (0, Str l)] ⟨rfl, rfl, rfl, rfl, rfl, trivial⟩ fun a hK => ?_
    refine wp_seq ?_
    refine region_go (lst := [0]) (by kernel_rfl) ?_
    refine stepP hK 5 (.int .i64 0) (by kernel_rfl) (by kernel_rfl) fun a hK => ?_
    refine region_done hK [(5, .int .i64 0), (4, .slice none 0 0), (10, .bool false), (3, .pointer (some ⟨b1, 0, none⟩)), (2, .slice none 0 0), (0, Str l)] ⟨rfl, rfl, rfl, rfl, rfl, rfl, trivial⟩ fun a hK => ?_
    refine wp_seq ?_
    refine wp_block ?_
    replace hM := hM.cons (it := .own 35 4 (.slice none 0 0) 0 []) (World.ownsRow_nil _ _ _ _) (fun _ _ => .inl rfl)
    refine wp_loopX (fun x : Nat × Value × (List TkAt) => [(10, .bool false), (3, .pointer (some ⟨b1, 0, none⟩)), (2, .slice none 0 0), (0, Str l), (5, .int .i64 ((x.1 : Nat) : Int)), (4, x.2.1)]) (fun x : Nat × Value × (List TkAt) => [.own 35 4 x.2.1 x.2.2.length (cellsT x.2.2), .row b1 24 [.int .i64 0, .int .i64 0]]) (fun x : Nat × Value × (List TkAt) => x.1 ≤ l.length ∧ x.2.2.length ≤ x.1 ∧ lexL 0 l = preT x.2.2 (lexL x.1 (l.drop x.1))) (fun x : Nat × Value × (List TkAt) => l.length - x.1) (0, .slice none 0 0, []) (hK.sub ⟨rfl, rfl, rfl, rfl, rfl, rfl, trivial⟩) hM ⟨Nat.zero_le _, Nat.zero_le _, by rw [preT_nil]; rfl⟩ ?_
    rintro ⟨p, v, ts⟩ a w hK hM hR
    replace hK : Knows a 78 [(10, .bool false), (3, .pointer (some ⟨b1, 0, none⟩)), (2, .slice none 0 0), (0, Str l), (5, .int .i64 ((p : Nat) : Int)), (4, v)] := hK
    replace hM : Mem w0 w [.own 35 4 v ts.length (cellsT ts), .row b1 24 [.int .i64 0, .int .i64 0]] := hM
    replace hR : p ≤ l.length ∧ ts.length ≤ p ∧ lexL 0 l = preT ts (lexL p (l.drop p)) := hR
    have hp := hR.1
    have htl := hR.2.1
    refine wp_seq ?_
    refine wp_seq ?_
    refine region_go (lst := [0, 1, 2, 3]) (by kernel_rfl) ?_
    refine stepM hK 12 5 (by kernel_rfl) (.inl rfl) rfl fun a hK => ?_
    refine stepM hK 13 0 (by kernel_rfl) (.inl rfl) rfl fun a hK => ?_
    refine stepP hK 14 (.int .i64 ((l.length : Nat) : Int)) (by kernel_rfl) (by kernel_rfl) fun a hK => ?_
    by_cases h3 : (((p : Nat) : Int) : Int) < ((l.length : Nat) : Int)
    · refine stepP hK 15 (.bool true) (by kernel_rfl) (okBool (b := (decide ((((p : Nat) : Int) : Int) < ((l.length : Nat) : Int)))) (by kernel_rfl) (decide_eq_true h3)) fun a hK => ?_
      refine region_done hK [(15, .bool true), (10, .bool false), (3, .pointer (some ⟨b1, 0, none⟩)), (2, .slice none 0 0), (0, Str l), (5, .int .i64 ((p : Nat) : Int)), (4, v)] ⟨rfl, rfl, rfl, rfl, rfl, rfl, rfl, trivial⟩ fun a hK => ?_
      refine wp_cond_true (hK.get rfl) ?_
      refine wp_skip ?_
      refine wp_block ?_
      refine wp_seq ?_
      refine wp_seq ?_
      refine region_go (lst := [0, 1, 2, 3]) (by kernel_rfl) ?_
      refine stepM hK 16 0 (by kernel_rfl) (.inl rfl) rfl fun a hK => ?_
      refine stepM hK 17 5 (by kernel_rfl) (.inl rfl) rfl fun a hK => ?_
      obtain ⟨c4, hc4⟩ : ∃ c, l[(p : Nat)]? = some c := ⟨_, List.getElem?_eq_getElem (by omega)⟩
      refine stepP hK 18 (.int .u8 ((c4.toNat : Nat) : Int)) (by kernel_rfl) (run_idxS (k := p) rfl rfl rfl hc4) fun a hK => ?_
      rcases Bool.eq_false_or_eq_true (isBlank c4) with h5 | h5
      · refine stepRet hK hM 19 #[.int .u8 ((c4.toNat : Nat) : Int)] (.bool true) (by kernel_rfl) (run_callE en_ref_blank rfl rfl (by kernel_rfl)) (ret_eq (ref_blank c4 _) (congrArg Value.bool h5)) fun a w hK hM => ?_
        refine region_done hK [(19, .bool true), (15, .bool true), (10, .bool false), (3, .pointer (some ⟨b1, 0, none⟩)), (2, .slice none 0 0), (0, Str l), (5, .int .i64 ((p : Nat) : Int)), (4, v)] ⟨rfl, rfl, rfl, rfl, rfl, rfl, rfl, rfl, trivial⟩ fun a hK => ?_
        refine wp_cond_true (hK.get rfl) ?_
        refine wp_seq ?_
        refine region_go (lst := [0, 1, 2]) (by kernel_rfl) ?_
        refine stepM hK 20 5 (by kernel_rfl) (.inl rfl) rfl fun a hK => ?_
        refine stepP hK 21 (.int .i64 (((p + 1) : Nat) : Int)) (by kernel_rfl) (run_addN (i := p) (j := 1) rfl rfl rfl (by omega)) fun a hK => ?_
        refine stepM hK 5 21 (by kernel_rfl) (.inr rfl) rfl fun a hK => ?_
        refine region_done hK [(5, .int .i64 (((p + 1) : Nat) : Int)), (19, .bool true), (15, .bool true), (10, .bool false), (3, .pointer (some ⟨b1, 0, none⟩)), (2, .slice none 0 0), (0, Str l), (4, v)] ⟨rfl, rfl, rfl, rfl, rfl, rfl, rfl, rfl, trivial⟩ fun a hK => ?_
        refine wp_exit (exit_then (exit_here 1 ?_))
        have hnew : lexL 0 l = preT ts (lexL (p + 1) (l.drop (p + 1))) := by rw [hR.2.2, lexL_skip (skip1_blank hc4 ((isBlank_eq _).symm.trans h5)), List.drop_drop]
        have hRn : (p + 1) ≤ l.length ∧ ts.length ≤ (p + 1) ∧ lexL 0 l = preT ts (lexL (p + 1) (l.drop (p + 1))) := ⟨by omega, by omega, hnew⟩
        have hmn : l.length - (p + 1) < l.length - p := by omega
        exact ⟨(p + 1, v, ts), hK.sub ⟨rfl, rfl, rfl, rfl, rfl, rfl, trivial⟩, hM, hRn, hmn⟩
      · refine stepRet hK hM 19 #[.int .u8 ((c4.toNat : Nat) : Int)] (.bool false) (by kernel_rfl) (run_callE en_ref_blank rfl rfl (by kernel_rfl)) (ret_eq (ref_blank c4 _) (congrArg Value.bool h5)) fun a w hK hM => ?_
        refine region_done hK [(19, .bool false), (15, .bool true), (10, .bool false), (3, .pointer (some ⟨b1, 0, none⟩)), (2, .slice none 0 0), (0, Str l), (5, .int .i64 ((p : Nat) : Int)), (4, v)] ⟨rfl, rfl, rfl, rfl, rfl, rfl, rfl, rfl, trivial⟩ fun a hK => ?_
        refine wp_cond_false (hK.get rfl) ?_
        refine wp_skip ?_
        refine wp_seq ?_
        refine wp_seq ?_
        refine region_go (lst := [0, 1, 2, 3, 4, 5, 6, 7, 8, 9, 10, 11, 12, 13, 14, 15, 16, 17]) (by kernel_rfl) ?_
        refine stepM hK 22 0 (by kernel_rfl) (.inl rfl) rfl fun a hK => ?_
        refine stepM hK 23 5 (by kernel_rfl) (.inl rfl) rfl fun a hK => ?_
        refine stepP hK 24 (.int .u8 ((c4.toNat : Nat) : Int)) (by kernel_rfl) (run_idxS (k := p) rfl rfl rfl hc4) fun a hK => ?_
        by_cases h6 : (((c4.toNat : Nat) : Int) : Int) = 47
        · refine stepP hK 25 (.bool true) (by kernel_rfl) (okBool (b := (decide ((((c4.toNat : Nat) : Int) : Int) = 47))) (by kernel_rfl) (decide_eq_true h6)) fun a hK => ?_
          refine stepM hK 26 25 (by kernel_rfl) (.inl rfl) rfl fun a hK => ?_
          refine stepM hK 27 5 (by kernel_rfl) (.inl rfl) rfl fun a hK => ?_
          refine stepP hK 28 (.int .i64 (((p + 1) : Nat) : Int)) (by kernel_rfl) (run_addN (i := p) (j := 1) rfl rfl rfl (by omega)) fun a hK => ?_
          refine stepM hK 29 0 (by kernel_rfl) (.inl rfl) rfl fun a hK => ?_
          refine stepP hK 30 (.int .i64 ((l.length : Nat) : Int)) (by kernel_rfl) (by kernel_rfl) fun a hK => ?_
          by_cases h7 : ((((p + 1) : Nat) : Int) : Int) < ((l.length : Nat) : Int)
          · refine stepP hK 31 (.bool true) (by kernel_rfl) (okBool (b := (decide (((((p + 1) : Nat) : Int) : Int) < ((l.length : Nat) : Int)))) (by kernel_rfl) (decide_eq_true h7)) fun a hK => ?_
            refine stepP hK 32 (.bool true) (by kernel_rfl) (by kernel_rfl) fun a hK => ?_
            refine stepM hK 33 32 (by kernel_rfl) (.inl rfl) rfl fun a hK => ?_
            refine stepM hK 34 0 (by kernel_rfl) (.inl rfl) rfl fun a hK => ?_
            refine stepM hK 35 5 (by kernel_rfl) (.inl rfl) rfl fun a hK => ?_
            refine stepP hK 36 (.int .i64 (((p + 1) : Nat) : Int)) (by kernel_rfl) (run_addN (i := p) (j := 1) rfl rfl rfl (by omega)) fun a hK => ?_
            obtain ⟨c8, hc8⟩ : ∃ c, l[((p + 1) : Nat)]? = some c := ⟨_, List.getElem?_eq_getElem (by omega)⟩
            refine stepP hK 37 (.int .u8 ((c8.toNat : Nat) : Int)) (by kernel_rfl) (run_idxS (k := (p + 1)) rfl rfl rfl hc8) fun a hK => ?_
            by_cases h9 : (((c8.toNat : Nat) : Int) : Int) = 47
            · refine stepP hK 38 (.bool true) (by kernel_rfl) (okBool (b := (decide ((((c8.toNat : Nat) : Int) : Int) = 47))) (by kernel_rfl) (decide_eq_true h9)) fun a hK => ?_
              refine stepP hK 39 (.bool true) (by kernel_rfl) (by kernel_rfl) fun a hK => ?_
              refine region_done hK [(39, .bool true), (19, .bool false), (15, .bool true), (10, .bool false), (3, .pointer (some ⟨b1, 0, none⟩)), (2, .slice none 0 0), (0, Str l), (5, .int .i64 ((p : Nat) : Int)), (4, v)] ⟨rfl, rfl, rfl, rfl, rfl, rfl, rfl, rfl, rfl, trivial⟩ fun a hK => ?_
              refine wp_cond_true (hK.get rfl) ?_
              refine wp_seq ?_
              refine wp_block ?_
              have hRo := hR
              have hsk := skip1_remark hc4 ((isBlank_eq _).symm.trans h5) (two_yes hc4 hc8 h6 h9)
              refine wp_loopX (fun x : Nat => [(39, .bool true), (19, .bool false), (15, .bool true), (10, .bool false), (3, .pointer (some ⟨b1, 0, none⟩)), (2, .slice none 0 0), (0, Str l), (4, v), (5, .int .i64 ((x : Nat) : Int))]) (fun x : Nat => [.own 35 4 v ts.length (cellsT ts), .row b1 24 [.int .i64 0, .int .i64 0]]) (fun x : Nat => p ≤ x ∧ x ≤ l.length ∧ ∀ (j : Nat) (c : UInt8), p ≤ j → j < x → l[j]? = some c → inLineB c = true) (fun x : Nat => l.length - x) p (hK.sub ⟨rfl, rfl, rfl, rfl, rfl, rfl, rfl, rfl, rfl, trivial⟩) hM ⟨Nat.le_refl _, by omega, fun j c h1 h2 => absurd h2 (by omega)⟩ ?_
              rintro q a w hK hM hR
              replace hK : Knows a 78 [(39, .bool true), (19, .bool false), (15, .bool true), (10, .bool false), (3, .pointer (some ⟨b1, 0, none⟩)), (2, .slice none 0 0), (0, Str l), (4, v), (5, .int .i64 ((q : Nat) : Int))] := hK
              replace hM : Mem w0 w [.own 35 4 v ts.length (cellsT ts), .row b1 24 [.int .i64 0, .int .i64 0]] := hM
              replace hR : p ≤ q ∧ q ≤ l.length ∧ ∀ (j : Nat) (c : UInt8), p ≤ j → j < q → l[j]? = some c → inLineB c = true := hR
              have hq1 := hR.1
              have hq2 := hR.2.1
              refine wp_seq ?_
              refine wp_seq ?_
              refine region_go (lst := [0, 1, 2, 3, 4, 5, 6, 7, 8, 9]) (by kernel_rfl) ?_
              refine stepM hK 40 5 (by kernel_rfl) (.inl rfl) rfl fun a hK => ?_
              refine stepM hK 41 0 (by kernel_rfl) (.inl rfl) rfl fun a hK => ?_
              refine stepP hK 42 (.int .i64 ((l.length : Nat) : Int)) (by kernel_rfl) (by kernel_rfl) fun a hK => ?_
              by_cases h10 : (((q : Nat) : Int) : Int) < ((l.length : Nat) : Int)
              · refine stepP hK 43 (.bool true) (by kernel_rfl) (okBool (b := (decide ((((q : Nat) : Int) : Int) < ((l.length : Nat) : Int)))) (by kernel_rfl) (decide_eq_true h10)) fun a hK => ?_
                refine stepM hK 44 43 (by kernel_rfl) (.inl rfl) rfl fun a hK => ?_
                refine stepM hK 45 0 (by kernel_rfl) (.inl rfl) rfl fun a hK => ?_
                refine stepM hK 46 5 (by kernel_rfl) (.inl rfl) rfl fun a hK => ?_
                obtain ⟨c11, hc11⟩ : ∃ c, l[(q : Nat)]? = some c := ⟨_, List.getElem?_eq_getElem (by omega)⟩
                refine stepP hK 47 (.int .u8 ((c11.toNat : Nat) : Int)) (by kernel_rfl) (run_idxS (k := q) rfl rfl rfl hc11) fun a hK => ?_
                rcases Bool.eq_false_or_eq_true (!(decide ((((c11.toNat : Nat) : Int) : Int) = 10))) with h12 | h12
                · refine stepP hK 48 (.bool true) (by kernel_rfl) (okBool (b := (!(decide ((((c11.toNat : Nat) : Int) : Int) = 10)))) (by kernel_rfl) h12) fun a hK => ?_
                  refine stepP hK 49 (.bool true) (by kernel_rfl) (by kernel_rfl) fun a hK => ?_
                  refine region_done hK [(49, .bool true), (39, .bool true), (19, .bool false), (15, .bool true), (10, .bool false), (3, .pointer (some ⟨b1, 0, none⟩)), (2, .slice none 0 0), (0, Str l), (4, v), (5, .int .i64 ((q : Nat) : Int))] ⟨rfl, rfl, rfl, rfl, rfl, rfl, rfl, rfl, rfl, rfl, trivial⟩ fun a hK => ?_
                  refine wp_cond_true (hK.get rfl) ?_
                  refine wp_skip ?_
                  refine wp_block ?_
                  refine region_go (lst := [0, 1, 2]) (by kernel_rfl) ?_
                  refine stepM hK 50 5 (by kernel_rfl) (.inl rfl) rfl fun a hK => ?_
                  refine stepP hK 51 (.int .i64 (((q + 1) : Nat) : Int)) (by kernel_rfl) (run_addN (i := q) (j := 1) rfl rfl rfl (by omega)) fun a hK => ?_
                  refine stepM hK 5 51 (by kernel_rfl) (.inr rfl) rfl fun a hK => ?_
                  refine region_done hK [(5, .int .i64 (((q + 1) : Nat) : Int)), (49, .bool true), (39, .bool true), (19, .bool false), (15, .bool true), (10, .bool false), (3, .pointer (some ⟨b1, 0, none⟩)), (2, .slice none 0 0), (0, Str l), (4, v)] ⟨rfl, rfl, rfl, rfl, rfl, rfl, rfl, rfl, rfl, rfl, trivial⟩ fun a hK => ?_
                  have hRn : p ≤ (q + 1) ∧ (q + 1) ≤ l.length ∧ ∀ (j : Nat) (c : UInt8), p ≤ j → j < (q + 1) → l[j]? = some c → inLineB c = true := ⟨by omega, by omega, fun j d h1 h2 h3 => (Nat.lt_succ_iff_lt_or_eq.1 h2).elim (fun h => hR.2.2 j d h1 h h3) (fun h => by subst h; rw [hc11] at h3; rw [← Option.some.inj h3]; exact nl_no h12)⟩
                  have hmn : l.length - (q + 1) < l.length - q := by omega
                  exact ⟨q + 1, hK.sub ⟨rfl, rfl, rfl, rfl, rfl, rfl, rfl, rfl, rfl, trivial⟩, hM, hRn, hmn⟩
                · refine stepP hK 48 (.bool false) (by kernel_rfl) (okBool (b := (!(decide ((((c11.toNat : Nat) : Int) : Int) = 10)))) (by kernel_rfl) h12) fun a hK => ?_
                  refine stepP hK 49 (.bool false) (by kernel_rfl) (by kernel_rfl) fun a hK => ?_
                  refine region_done hK [(49, .bool false), (39, .bool true), (19, .bool false), (15, .bool true), (10, .bool false), (3, .pointer (some ⟨b1, 0, none⟩)), (2, .slice none 0 0), (0, Str l), (4, v), (5, .int .i64 ((q : Nat) : Int))] ⟨rfl, rfl, rfl, rfl, rfl, rfl, rfl, rfl, rfl, rfl, trivial⟩ fun a hK => ?_
                  refine wp_cond_false (hK.get rfl) ?_
                  have hqe := run_to hR.1 hR.2.1 hR.2.2 (fun c h => by rw [hc11] at h; rw [← Option.some.inj h]; exact nl_yes h12)
                  refine wp_exit (exit_then (exit_then (exit_here 2 ?_)))
                  refine wp_exit (exit_then (exit_here 1 ?_))
                  have hps := skip1_pos hsk
                  have hnew : lexL 0 l = preT ts (lexL q (l.drop q)) := by rw [hRo.2.2, lexL_skip hsk, List.drop_drop, ← hqe]
                  have hRn : q ≤ l.length ∧ ts.length ≤ q ∧ lexL 0 l = preT ts (lexL q (l.drop q)) := ⟨by omega, by omega, hnew⟩
                  have hmn : l.length - q < l.length - p := by omega
                  exact ⟨(q, v, ts), hK.sub ⟨rfl, rfl, rfl, rfl, rfl, rfl, trivial⟩, hM, hRn, hmn⟩
              · refine stepP hK 43 (.bool false) (by kernel_rfl) (okBool (b := (decide ((((q : Nat) : Int) : Int) < ((l.length : Nat) : Int)))) (by kernel_rfl) (decide_eq_false h10)) fun a hK => ?_
                refine stepM hK 44 43 (by kernel_rfl) (.inl rfl) rfl fun a hK => ?_
                refine stepN hK 45 (by kernel_rfl) fun a hK => ?_
                refine stepN hK 46 (by kernel_rfl) fun a hK => ?_
                refine stepN hK 47 (by kernel_rfl) fun a hK => ?_
                refine stepN hK 48 (by kernel_rfl) fun a hK => ?_
                refine stepP hK 49 (.bool false) (by kernel_rfl) (by kernel_rfl) fun a hK => ?_
                refine region_done hK [(49, .bool false), (39, .bool true), (19, .bool false), (15, .bool true), (10, .bool false), (3, .pointer (some ⟨b1, 0, none⟩)), (2, .slice none 0 0), (0, Str l), (4, v), (5, .int .i64 ((q : Nat) : Int))] ⟨rfl, rfl, rfl, rfl, rfl, rfl, rfl, rfl, rfl, rfl, trivial⟩ fun a hK => ?_
                refine wp_cond_false (hK.get rfl) ?_
                have hqe := run_to hR.1 hR.2.1 hR.2.2 (fun c h => by rw [List.getElem?_eq_none (by omega)] at h; cases h)
                refine wp_exit (exit_then (exit_then (exit_here 2 ?_)))
                refine wp_exit (exit_then (exit_here 1 ?_))
                have hps := skip1_pos hsk
                have hnew : lexL 0 l = preT ts (lexL q (l.drop q)) := by rw [hRo.2.2, lexL_skip hsk, List.drop_drop, ← hqe]
                have hRn : q ≤ l.length ∧ ts.length ≤ q ∧ lexL 0 l = preT ts (lexL q (l.drop q)) := ⟨by omega, by omega, hnew⟩
                have hmn : l.length - q < l.length - p := by omega
                exact ⟨(q, v, ts), hK.sub ⟨rfl, rfl, rfl, rfl, rfl, rfl, trivial⟩, hM, hRn, hmn⟩
            · refine stepP hK 38 (.bool false) (by kernel_rfl) (okBool (b := (decide ((((c8.toNat : Nat) : Int) : Int) = 47))) (by kernel_rfl) (decide_eq_false h9)) fun a hK => ?_
              refine stepP hK 39 (.bool false) (by kernel_rfl) (by kernel_rfl) fun a hK => ?_
              refine region_done hK [(39, .bool false), (19, .bool false), (15, .bool true), (10, .bool false), (3, .pointer (some ⟨b1, 0, none⟩)), (2, .slice none 0 0), (0, Str l), (5, .int .i64 ((p : Nat) : Int)), (4, v)] ⟨rfl, rfl, rfl, rfl, rfl, rfl, rfl, rfl, rfl, trivial⟩ fun a hK => ?_
              refine wp_cond_false (hK.get rfl) ?_
              refine wp_skip ?_
              refine wp_seq ?_
              have hsk := skip1_token hc4 ((isBlank_eq _).symm.trans h5) (two_no3 hc4 hc8 h9)
              refine region_go (lst := [0, 1, 2, 3, 4, 5, 6, 7, 8]) (by kernel_rfl) ?_
              refine stepM hK 53 0 (by kernel_rfl) (.inl rfl) rfl fun a hK => ?_
              refine stepM hK 54 5 (by kernel_rfl) (.inl rfl) rfl fun a hK => ?_
              rcases ho : oneOf (l.drop p) with _ | t9
              · refine stepRet hK hM 55 #[Str l, .int .i64 ((p : Nat) : Int)] (.tuple #[.agg #[.int .i64 0, Str [], .int .i64 0, .int .i64 0], .bool false]) (by kernel_rfl) (run_callE en_ref_one rfl rfl (by kernel_rfl)) (ret_eq (ref_one l p _ (by omega) (by omega)) (v' := (.tuple #[.agg #[.int .i64 0, Str [], .int .i64 0, .int .i64 0], .bool false])) (by rw [ho]; rfl)) fun a w hK hM => ?_
                refine stepM hK 52 55 (by kernel_rfl) (.inl rfl) rfl fun a hK => ?_
                refine stepP hK 56 (.agg #[.int .i64 0, Str [], .int .i64 0, .int .i64 0]) (by kernel_rfl) (by kernel_rfl) fun a hK => ?_
                refine stepP hK 57 (.bool false) (by kernel_rfl) (by kernel_rfl) fun a hK => ?_
                refine stepAlloc hK hM 6 35 [.int .i64 0, Str [], .int .i64 0, .int .i64 0] (fun b => .pointer (some ⟨b, 0, none⟩)) (by kernel_rfl) (by kernel_rfl) fun b13 a w hK hM => ?_
                refine stepStore hK hM 0 [.int .i64 0, Str [], .int .i64 0, .int .i64 0] (by kernel_rfl) rfl rfl rfl rfl (by kernel_rfl) fun w hM => ?_
                replace hM := hM.to [.row b13 35 [.int .i64 0, Str [], .int .i64 0, .int .i64 0], .own 35 4 v ts.length (cellsT ts), .row b1 24 [.int .i64 0, .int .i64 0]] (by kernel_rfl)
                refine stepM hK 7 57 (by kernel_rfl) (.inr rfl) rfl fun a hK => ?_
                refine region_done hK [(7, .bool false), (6, .pointer (some ⟨b13, 0, none⟩)), (39, .bool false), (19, .bool false), (15, .bool true), (10, .bool false), (3, .pointer (some ⟨b1, 0, none⟩)), (2, .slice none 0 0), (0, Str l), (5, .int .i64 ((p : Nat) : Int)), (4, v)] ⟨rfl, rfl, rfl, rfl, rfl, rfl, rfl, rfl, rfl, rfl, rfl, trivial⟩ fun a hK => ?_
                refine wp_seq ?_
                refine wp_seq ?_
                refine region_go (lst := [0, 1]) (by kernel_rfl) ?_
                refine stepM hK 58 7 (by kernel_rfl) (.inl rfl) rfl fun a hK => ?_
                refine stepP hK 59 (.bool true) (by kernel_rfl) (by kernel_rfl) fun a hK => ?_
                refine region_done hK [(59, .bool true), (7, .bool false), (6, .pointer (some ⟨b13, 0, none⟩)), (39, .bool false), (19, .bool false), (15, .bool true), (10, .bool false), (3, .pointer (some ⟨b1, 0, none⟩)), (2, .slice none 0 0), (0, Str l), (5, .int .i64 ((p : Nat) : Int)), (4, v)] ⟨rfl, rfl, rfl, rfl, rfl, rfl, rfl, rfl, rfl, rfl, rfl, rfl, trivial⟩ fun a hK => ?_
                refine wp_cond_true (hK.get rfl) ?_
                refine wp_seq ?_
                refine region_go (lst := [0, 1, 2, 3]) (by kernel_rfl) ?_
                refine stepM hK 60 5 (by kernel_rfl) (.inl rfl) rfl fun a hK => ?_
                refine stepP hK 61 (.agg #[.int .i64 4, .int .i64 ((p : Nat) : Int)]) (by kernel_rfl) (by kernel_rfl) fun a hK => ?_
                refine stepP hK 2 (.slice none 0 0) (by kernel_rfl) (by kernel_rfl) fun a hK => ?_
                refine stepStore hK hM 2 [.int .i64 4, .int .i64 ((p : Nat) : Int)] (by kernel_rfl) rfl rfl rfl rfl (by kernel_rfl) fun w hM => ?_
                replace hM := hM.to [.row b13 35 [.int .i64 0, Str [], .int .i64 0, .int .i64 0], .own 35 4 v ts.length (cellsT ts), .row b1 24 [.int .i64 4, .int .i64 ((p : Nat) : Int)]] (by kernel_rfl)
                refine region_done hK [(2, .slice none 0 0), (59, .bool true), (7, .bool false), (6, .pointer (some ⟨b13, 0, none⟩)), (39, .bool false), (19, .bool false), (15, .bool true), (10, .bool false), (3, .pointer (some ⟨b1, 0, none⟩)), (0, Str l), (5, .int .i64 ((p : Nat) : Int)), (4, v)] ⟨rfl, rfl, rfl, rfl, rfl, rfl, rfl, rfl, rfl, rfl, rfl, rfl, trivial⟩ fun a hK => ?_
                refine wp_ret ?_
                exact ret_tc hK rfl (v := (.slice none 0 0)) rfl rfl ((hM.row 2 rfl).cells 0 2) (u := (.agg #[.int .i64 4, .int .i64 ((p : Nat) : Int)])) (by kernel_rfl) (post_bad (p := p) (by omega) (by rw [hR.2.2, lexL_bad (by intro e; have := congrArg List.length e; rw [List.length_drop, List.length_nil] at this; omega) hsk ho]; rfl) ⟨rfl, hM.below⟩)
              · have h1l := one_len ho
                rw [List.length_drop] at h1l
                refine stepRet hK hM 55 #[Str l, .int .i64 ((p : Nat) : Int)] (.tuple #[.agg #[.int .i64 t9.1, Str t9.2.1, .int .i64 t9.2.2, .int .i64 ((p : Nat) : Int)], .bool true]) (by kernel_rfl) (run_callE en_ref_one rfl rfl (by kernel_rfl)) (ret_eq (ref_one l p _ (by omega) (by omega)) (v' := (.tuple #[.agg #[.int .i64 t9.1, Str t9.2.1, .int .i64 t9.2.2, .int .i64 ((p : Nat) : Int)], .bool true])) (by rw [ho]; rfl)) fun a w hK hM => ?_
                refine stepM hK 52 55 (by kernel_rfl) (.inl rfl) rfl fun a hK => ?_
                refine stepP hK 56 (.agg #[.int .i64 t9.1, Str t9.2.1, .int .i64 t9.2.2, .int .i64 ((p : Nat) : Int)]) (by kernel_rfl) (by kernel_rfl) fun a hK => ?_
                refine stepP hK 57 (.bool true) (by kernel_rfl) (by kernel_rfl) fun a hK => ?_
                refine stepAlloc hK hM 6 35 [.int .i64 0, Str [], .int .i64 0, .int .i64 0] (fun b => .pointer (some ⟨b, 0, none⟩)) (by kernel_rfl) (by kernel_rfl) fun b14 a w hK hM => ?_
                refine stepStore hK hM 0 [.int .i64 t9.1, Str t9.2.1, .int .i64 t9.2.2, .int .i64 ((p : Nat) : Int)] (by kernel_rfl) rfl rfl rfl rfl (by kernel_rfl) fun w hM => ?_
                replace hM := hM.to [.row b14 35 [.int .i64 t9.1, Str t9.2.1, .int .i64 t9.2.2, .int .i64 ((p : Nat) : Int)], .own 35 4 v ts.length (cellsT ts), .row b1 24 [.int .i64 0, .int .i64 0]] (by kernel_rfl)
                refine stepM hK 7 57 (by kernel_rfl) (.inr rfl) rfl fun a hK => ?_
                refine region_done hK [(7, .bool true), (6, .pointer (some ⟨b14, 0, none⟩)), (39, .bool false), (19, .bool false), (15, .bool true), (10, .bool false), (3, .pointer (some ⟨b1, 0, none⟩)), (2, .slice none 0 0), (0, Str l), (5, .int .i64 ((p : Nat) : Int)), (4, v)] ⟨rfl, rfl, rfl, rfl, rfl, rfl, rfl, rfl, rfl, rfl, rfl, trivial⟩ fun a hK => ?_
                refine wp_seq ?_
                refine wp_seq ?_
                refine region_go (lst := [0, 1]) (by kernel_rfl) ?_
                refine stepM hK 58 7 (by kernel_rfl) (.inl rfl) rfl fun a hK => ?_
                refine stepP hK 59 (.bool false) (by kernel_rfl) (by kernel_rfl) fun a hK => ?_
                refine region_done hK [(59, .bool false), (7, .bool true), (6, .pointer (some ⟨b14, 0, none⟩)), (39, .bool false), (19, .bool false), (15, .bool true), (10, .bool false), (3, .pointer (some ⟨b1, 0, none⟩)), (2, .slice none 0 0), (0, Str l), (5, .int .i64 ((p : Nat) : Int)), (4, v)] ⟨rfl, rfl, rfl, rfl, rfl, rfl, rfl, rfl, rfl, rfl, rfl, rfl, trivial⟩ fun a hK => ?_
                refine wp_cond_false (hK.get rfl) ?_
                refine wp_skip ?_
                refine wp_seq ?_
                refine region_go (lst := [0, 1, 2, 3, 4]) (by kernel_rfl) ?_
                refine stepM hK 62 4 (by kernel_rfl) (.inl rfl) rfl fun a hK => ?_
                refine stepLoad hK 63 (.agg #[.int .i64 t9.1, Str t9.2.1, .int .i64 t9.2.2, .int .i64 ((p : Nat) : Int)]) (by kernel_rfl) rfl rfl ((hM.row 0 rfl).cells 0 4) (by kernel_rfl) fun a hK => ?_
                refine stepAlloc hK hM 64 35 [.int .i64 t9.1, Str t9.2.1, .int .i64 t9.2.2, .int .i64 ((p : Nat) : Int)] (fun b => .slice (some ⟨b, 0, none⟩) 1 1) (by kernel_rfl) (by kernel_rfl) fun b15 a w hK hM => ?_
                refine stepAppend hK hM 65 2 0 (ety := 35) (size := 4) (m := 1) (news := [.int .i64 t9.1, Str t9.2.1, .int .i64 t9.2.2, .int .i64 ((p : Nat) : Int)]) Tryd.underlying29 elem_tok (by kernel_rfl) rfl rfl rfl rfl rfl rfl (by kernel_rfl) ⟨by omega, by decide⟩ ?_
                intro v16 a w hK hM
                replace hM := hM.to [.row b15 35 [.int .i64 t9.1, Str t9.2.1, .int .i64 t9.2.2, .int .i64 ((p : Nat) : Int)], .row b14 35 [.int .i64 t9.1, Str t9.2.1, .int .i64 t9.2.2, .int .i64 ((p : Nat) : Int)], .own 35 4 v16 (ts.length + 1) ((cellsT ts) ++ [.int .i64 t9.1, Str t9.2.1, .int .i64 t9.2.2, .int .i64 ((p : Nat) : Int)]), .row b1 24 [.int .i64 0, .int .i64 0]] (by kernel_rfl)
                refine stepM hK 4 65 (by kernel_rfl) (.inr rfl) rfl fun a hK => ?_
                refine region_done hK [(4, v16), (59, .bool false), (7, .bool true), (6, .pointer (some ⟨b14, 0, none⟩)), (39, .bool false), (19, .bool false), (15, .bool true), (10, .bool false), (3, .pointer (some ⟨b1, 0, none⟩)), (2, .slice none 0 0), (0, Str l), (5, .int .i64 ((p : Nat) : Int))] ⟨rfl, rfl, rfl, rfl, rfl, rfl, rfl, rfl, rfl, rfl, rfl, rfl, trivial⟩ fun a hK => ?_
                refine region_go (lst := [0, 1, 2, 3, 4, 5]) (by kernel_rfl) ?_
                refine stepM hK 66 5 (by kernel_rfl) (.inl rfl) rfl fun a hK => ?_
                refine stepP hK 67 (.pointer (some ⟨b14, 1, none⟩)) (by kernel_rfl) (by kernel_rfl) fun a hK => ?_
                refine stepLoad hK 68 (Str t9.2.1) (by kernel_rfl) rfl rfl ((hM.row 1 rfl).cells 1 1) (by kernel_rfl) fun a hK => ?_
                refine stepP hK 69 (.int .i64 ((t9.2.1.length : Nat) : Int)) (by kernel_rfl) (by kernel_rfl) fun a hK => ?_
                refine stepP hK 70 (.int .i64 (((p + t9.2.1.length) : Nat) : Int)) (by kernel_rfl) (run_addN (i := p) (j := t9.2.1.length) rfl rfl rfl (by omega)) fun a hK => ?_
                refine stepM hK 5 70 (by kernel_rfl) (.inr rfl) rfl fun a hK => ?_
                refine region_done hK [(5, .int .i64 (((p + t9.2.1.length) : Nat) : Int)), (4, v16), (59, .bool false), (7, .bool true), (6, .pointer (some ⟨b14, 0, none⟩)), (39, .bool false), (19, .bool false), (15, .bool true), (10, .bool false), (3, .pointer (some ⟨b1, 0, none⟩)), (2, .slice none 0 0), (0, Str l)] ⟨rfl, rfl, rfl, rfl, rfl, rfl, rfl, rfl, rfl, rfl, rfl, rfl, trivial⟩ fun a hK => ?_
                replace hM := hM.to [.row b15 35 [.int .i64 t9.1, Str t9.2.1, .int .i64 t9.2.2, .int .i64 ((p : Nat) : Int)], .row b14 35 [.int .i64 t9.1, Str t9.2.1, .int .i64 t9.2.2, .int .i64 ((p : Nat) : Int)], .own 35 4 v16 (ts ++ [(t9, p)]).length (cellsT (ts ++ [(t9, p)])), .row b1 24 [.int .i64 0, .int .i64 0]] (by rw [cellsT_snoc, List.length_append]; rfl)
                have hnew : lexL 0 l = preT (ts ++ [(t9, p)]) (lexL (p + t9.2.1.length) (l.drop (p + t9.2.1.length))) := by rw [hR.2.2, lexL_tok hsk ho, preT_cons, List.drop_drop]
                have hRn : ((p + t9.2.1.length)) ≤ l.length ∧ ((ts ++ [(t9, p)])).length ≤ ((p + t9.2.1.length)) ∧ lexL 0 l = preT ((ts ++ [(t9, p)])) (lexL ((p + t9.2.1.length)) (l.drop ((p + t9.2.1.length)))) := ⟨by omega, by rw [List.length_append]; simp only [List.length_cons, List.length_nil]; omega, hnew⟩
                have hmn : l.length - ((p + t9.2.1.length)) < l.length - p := by omega
                exact ⟨((p + t9.2.1.length), v16, (ts ++ [(t9, p)])), hK.sub ⟨rfl, rfl, rfl, rfl, rfl, rfl, trivial⟩, (hM.drop 2), hRn, hmn⟩
          · refine stepP hK 31 (.bool false) (by kernel_rfl) (okBool (b := (decide (((((p + 1) : Nat) : Int) : Int) < ((l.length : Nat) : Int)))) (by kernel_rfl) (decide_eq_false h7)) fun a hK => ?_
            refine stepP hK 32 (.bool false) (by kernel_rfl) (by kernel_rfl) fun a hK => ?_
            refine stepM hK 33 32 (by kernel_rfl) (.inl rfl) rfl fun a hK => ?_
            refine stepN hK 34 (by kernel_rfl) fun a hK => ?_
            refine stepN hK 35 (by kernel_rfl) fun a hK => ?_
            refine stepN hK 36 (by kernel_rfl) fun a hK => ?_
            refine stepN hK 37 (by kernel_rfl) fun a hK => ?_
            refine stepN hK 38 (by kernel_rfl) fun a hK => ?_
            refine stepP hK 39 (.bool false) (by kernel_rfl) (by kernel_rfl) fun a hK => ?_
            refine region_done hK [(39, .bool false), (19, .bool false), (15, .bool true), (10, .bool false), (3, .pointer (some ⟨b1, 0, none⟩)), (2, .slice none 0 0), (0, Str l), (5, .int .i64 ((p : Nat) : Int)), (4, v)] ⟨rfl, rfl, rfl, rfl, rfl, rfl, rfl, rfl, rfl, trivial⟩ fun a hK => ?_
            refine wp_cond_false (hK.get rfl) ?_
            refine wp_skip ?_
            refine wp_seq ?_
            have hsk := skip1_token hc4 ((isBlank_eq _).symm.trans h5) (two_no2 (by omega))
            refine region_go (lst := [0, 1, 2, 3, 4, 5, 6, 7, 8]) (by kernel_rfl) ?_
            refine stepM hK 53 0 (by kernel_rfl) (.inl rfl) rfl fun a hK => ?_
            refine stepM hK 54 5 (by kernel_rfl) (.inl rfl) rfl fun a hK => ?_
            rcases ho : oneOf (l.drop p) with _ | t9
            · refine stepRet hK hM 55 #[Str l, .int .i64 ((p : Nat) : Int)] (.tuple #[.agg #[.int .i64 0, Str [], .int .i64 0, .int .i64 0], .bool false]) (by kernel_rfl) (run_callE en_ref_one rfl rfl (by kernel_rfl)) (ret_eq (ref_one l p _ (by omega) (by omega)) (v' := (.tuple #[.agg #[.int .i64 0, Str [], .int .i64 0, .int .i64 0], .bool false])) (by rw [ho]; rfl)) fun a w hK hM => ?_
              refine stepM hK 52 55 (by kernel_rfl) (.inl rfl) rfl fun a hK => ?_
              refine stepP hK 56 (.agg #[.int .i64 0, Str [], .int .i64 0, .int .i64 0]) (by kernel_rfl) (by kernel_rfl) fun a hK => ?_
              refine stepP hK 57 (.bool false) (by kernel_rfl) (by kernel_rfl) fun a hK => ?_
              refine stepAlloc hK hM 6 35 [.int .i64 0, Str [], .int .i64 0, .int .i64 0] (fun b => .pointer (some ⟨b, 0, none⟩)) (by kernel_rfl) (by kernel_rfl) fun b17 a w hK hM => ?_
              refine stepStore hK hM 0 [.int .i64 0, Str [], .int .i64 0, .int .i64 0] (by kernel_rfl) rfl rfl rfl rfl (by kernel_rfl) fun w hM => ?_
              replace hM := hM.to [.row b17 35 [.int .i64 0, Str [], .int .i64 0, .int .i64 0], .own 35 4 v ts.length (cellsT ts), .row b1 24 [.int .i64 0, .int .i64 0]] (by kernel_rfl)
              refine stepM hK 7 57 (by kernel_rfl) (.inr rfl) rfl fun a hK => ?_
              refine region_done hK [(7, .bool false), (6, .pointer (some ⟨b17, 0, none⟩)), (39, .bool false), (19, .bool false), (15, .bool true), (10, .bool false), (3, .pointer (some ⟨b1, 0, none⟩)), (2, .slice none 0 0), (0, Str l), (5, .int .i64 ((p : Nat) : Int)), (4, v)] ⟨rfl, rfl, rfl, rfl, rfl, rfl, rfl, rfl, rfl, rfl, rfl, trivial⟩ fun a hK => ?_
              refine wp_seq ?_
              refine wp_seq ?_
              refine region_go (lst := [0, 1]) (by kernel_rfl) ?_
              refine stepM hK 58 7 (by kernel_rfl) (.inl rfl) rfl fun a hK => ?_
              refine stepP hK 59 (.bool true) (by kernel_rfl) (by kernel_rfl) fun a hK => ?_
              refine region_done hK [(59, .bool true), (7, .bool false), (6, .pointer (some ⟨b17, 0, none⟩)), (39, .bool false), (19, .bool false), (15, .bool true), (10, .bool false), (3, .pointer (some ⟨b1, 0, none⟩)), (2, .slice none 0 0), (0, Str l), (5, .int .i64 ((p : Nat) : Int)), (4, v)] ⟨rfl, rfl, rfl, rfl, rfl, rfl, rfl, rfl, rfl, rfl, rfl, rfl, trivial⟩ fun a hK => ?_
              refine wp_cond_true (hK.get rfl) ?_
              refine wp_seq ?_
              refine region_go (lst := [0, 1, 2, 3]) (by kernel_rfl) ?_
              refine stepM hK 60 5 (by kernel_rfl) (.inl rfl) rfl fun a hK => ?_
              refine stepP hK 61 (.agg #[.int .i64 4, .int .i64 ((p : Nat) : Int)]) (by kernel_rfl) (by kernel_rfl) fun a hK => ?_
              refine stepP hK 2 (.slice none 0 0) (by kernel_rfl) (by kernel_rfl) fun a hK => ?_
              refine stepStore hK hM 2 [.int .i64 4, .int .i64 ((p : Nat) : Int)] (by kernel_rfl) rfl rfl rfl rfl (by kernel_rfl) fun w hM => ?_
              replace hM := hM.to [.row b17 35 [.int .i64 0, Str [], .int .i64 0, .int .i64 0], .own 35 4 v ts.length (cellsT ts), .row b1 24 [.int .i64 4, .int .i64 ((p : Nat) : Int)]] (by kernel_rfl)
              refine region_done hK [(2, .slice none 0 0), (59, .bool true), (7, .bool false), (6, .pointer (some ⟨b17, 0, none⟩)), (39, .bool false), (19, .bool false), (15, .bool true), (10, .bool false), (3, .pointer (some ⟨b1, 0, none⟩)), (0, Str l), (5, .int .i64 ((p : Nat) : Int)), (4, v)] ⟨rfl, rfl, rfl, rfl, rfl, rfl, rfl, rfl, rfl, rfl, rfl, rfl, trivial⟩ fun a hK => ?_
              refine wp_ret ?_
              exact ret_tc hK rfl (v := (.slice none 0 0)) rfl rfl ((hM.row 2 rfl).cells 0 2) (u := (.agg #[.int .i64 4, .int .i64 ((p : Nat) : Int)])) (by kernel_rfl) (post_bad (p := p) (by omega) (by rw [hR.2.2, lexL_bad (by intro e; have := congrArg List.length e; rw [List.length_drop, List.length_nil] at this; omega) hsk ho]; rfl) ⟨rfl, hM.below⟩)
            · have h1l := one_len ho
              rw [List.length_drop] at h1l
              refine stepRet hK hM 55 #[Str l, .int .i64 ((p : Nat) : Int)] (.tuple #[.agg #[.int .i64 t9.1, Str t9.2.1, .int .i64 t9.2.2, .int .i64 ((p : Nat) : Int)], .bool true]) (by kernel_rfl) (run_callE en_ref_one rfl rfl (by kernel_rfl)) (ret_eq (ref_one l p _ (by omega) (by omega)) (v' := (.tuple #[.agg #[.int .i64 t9.1, Str t9.2.1, .int .i64 t9.2.2, .int .i64 ((p : Nat) : Int)], .bool true])) (by rw [ho]; rfl)) fun a w hK hM => ?_
              refine stepM hK 52 55 (by kernel_rfl) (.inl rfl) rfl fun a hK => ?_
              refine stepP hK 56 (.agg #[.int .i64 t9.1, Str t9.2.1, .int .i64 t9.2.2, .int .i64 ((p : Nat) : Int)]) (by kernel_rfl) (by kernel_rfl) fun a hK => ?_
              refine stepP hK 57 (.bool true) (by kernel_rfl) (by kernel_rfl) fun a hK => ?_
              refine stepAlloc hK hM 6 35 [.int .i64 0, Str [], .int .i64 0, .int .i64 0] (fun b => .pointer (some ⟨b, 0, none⟩)) (by kernel_rfl) (by kernel_rfl) fun b18 a w hK hM => ?_
              refine stepStore hK hM 0 [.int .i64 t9.1, Str t9.2.1, .int .i64 t9.2.2, .int .i64 ((p : Nat) : Int)] (by kernel_rfl) rfl rfl rfl rfl (by kernel_rfl) fun w hM => ?_
              replace hM := hM.to [.row b18 35 [.int .i64 t9.1, Str t9.2.1, .int .i64 t9.2.2, .int .i64 ((p : Nat) : Int)], .own 35 4 v ts.length (cellsT ts), .row b1 24 [.int .i64 0, .int .i64 0]] (by kernel_rfl)
              refine stepM hK 7 57 (by kernel_rfl) (.inr rfl) rfl fun a hK => ?_
              refine region_done hK [(7, .bool true), (6, .pointer (some ⟨b18, 0, none⟩)), (39, .bool false), (19, .bool false), (15, .bool true), (10, .bool false), (3, .pointer (some ⟨b1, 0, none⟩)), (2, .slice none 0 0), (0, Str l), (5, .int .i64 ((p : Nat) : Int)), (4, v)] ⟨rfl, rfl, rfl, rfl, rfl, rfl, rfl, rfl, rfl, rfl, rfl, trivial⟩ fun a hK => ?_
              refine wp_seq ?_
              refine wp_seq ?_
              refine region_go (lst := [0, 1]) (by kernel_rfl) ?_
              refine stepM hK 58 7 (by kernel_rfl) (.inl rfl) rfl fun a hK => ?_
              refine stepP hK 59 (.bool false) (by kernel_rfl) (by kernel_rfl) fun a hK => ?_
              refine region_done hK [(59, .bool false), (7, .bool true), (6, .pointer (some ⟨b18, 0, none⟩)), (39, .bool false), (19, .bool false), (15, .bool true), (10, .bool false), (3, .pointer (some ⟨b1, 0, none⟩)), (2, .slice none 0 0), (0, Str l), (5, .int .i64 ((p : Nat) : Int)), (4, v)] ⟨rfl, rfl, rfl, rfl, rfl, rfl, rfl, rfl, rfl, rfl, rfl, rfl, trivial⟩ fun a hK => ?_
              refine wp_cond_false (hK.get rfl) ?_
              refine wp_skip ?_
              refine wp_seq ?_
              refine region_go (lst := [0, 1, 2, 3, 4]) (by kernel_rfl) ?_
              refine stepM hK 62 4 (by kernel_rfl) (.inl rfl) rfl fun a hK => ?_
              refine stepLoad hK 63 (.agg #[.int .i64 t9.1, Str t9.2.1, .int .i64 t9.2.2, .int .i64 ((p : Nat) : Int)]) (by kernel_rfl) rfl rfl ((hM.row 0 rfl).cells 0 4) (by kernel_rfl) fun a hK => ?_
              refine stepAlloc hK hM 64 35 [.int .i64 t9.1, Str t9.2.1, .int .i64 t9.2.2, .int .i64 ((p : Nat) : Int)] (fun b => .slice (some ⟨b, 0, none⟩) 1 1) (by kernel_rfl) (by kernel_rfl) fun b19 a w hK hM => ?_
              refine stepAppend hK hM 65 2 0 (ety := 35) (size := 4) (m := 1) (news := [.int .i64 t9.1, Str t9.2.1, .int .i64 t9.2.2, .int .i64 ((p : Nat) : Int)]) Tryd.underlying29 elem_tok (by kernel_rfl) rfl rfl rfl rfl rfl rfl (by kernel_rfl) ⟨by omega, by decide⟩ ?_
              intro v20 a w hK hM
              replace hM := hM.to [.row b19 35 [.int .i64 t9.1, Str t9.2.1, .int .i64 t9.2.2, .int .i64 ((p : Nat) : Int)], .row b18 35 [.int .i64 t9.1, Str t9.2.1, .int .i64 t9.2.2, .int .i64 ((p : Nat) : Int)], .own 35 4 v20 (ts.length + 1) ((cellsT ts) ++ [.int .i64 t9.1, Str t9.2.1, .int .i64 t9.2.2, .int .i64 ((p : Nat) : Int)]), .row b1 24 [.int .i64 0, .int .i64 0]] (by kernel_rfl)
              refine stepM hK 4 65 (by kernel_rfl) (.inr rfl) rfl fun a hK => ?_
              refine region_done hK [(4, v20), (59, .bool false), (7, .bool true), (6, .pointer (some ⟨b18, 0, none⟩)), (39, .bool false), (19, .bool false), (15, .bool true), (10, .bool false), (3, .pointer (some ⟨b1, 0, none⟩)), (2, .slice none 0 0), (0, Str l), (5, .int .i64 ((p : Nat) : Int))] ⟨rfl, rfl, rfl, rfl, rfl, rfl, rfl, rfl, rfl, rfl, rfl, rfl, trivial⟩ fun a hK => ?_
              refine region_go (lst := [0, 1, 2, 3, 4, 5]) (by kernel_rfl) ?_
              refine stepM hK 66 5 (by kernel_rfl) (.inl rfl) rfl fun a hK => ?_
              refine stepP hK 67 (.pointer (some ⟨b18, 1, none⟩)) (by kernel_rfl) (by kernel_rfl) fun a hK => ?_
              refine stepLoad hK 68 (Str t9.2.1) (by kernel_rfl) rfl rfl ((hM.row 1 rfl).cells 1 1) (by kernel_rfl) fun a hK => ?_
              refine stepP hK 69 (.int .i64 ((t9.2.1.length : Nat) : Int)) (by kernel_rfl) (by kernel_rfl) fun a hK => ?_
              refine stepP hK 70 (.int .i64 (((p + t9.2.1.length) : Nat) : Int)) (by kernel_rfl) (run_addN (i := p) (j := t9.2.1.length) rfl rfl rfl (by omega)) fun a hK => ?_
              refine stepM hK 5 70 (by kernel_rfl) (.inr rfl) rfl fun a hK => ?_
              refine region_done hK [(5, .int .i64 (((p + t9.2.1.length) : Nat) : Int)), (4, v20), (59, .bool false), (7, .bool true), (6, .pointer (some ⟨b18, 0, none⟩)), (39, .bool false), (19, .bool false), (15, .bool true), (10, .bool false), (3, .pointer (some ⟨b1, 0, none⟩)), (2, .slice none 0 0), (0, Str l)] ⟨rfl, rfl, rfl, rfl, rfl, rfl, rfl, rfl, rfl, rfl, rfl, rfl, trivial⟩ fun a hK => ?_
              replace hM := hM.to [.row b19 35 [.int .i64 t9.1, Str t9.2.1, .int .i64 t9.2.2, .int .i64 ((p : Nat) : Int)], .row b18 35 [.int .i64 t9.1, Str t9.2.1, .int .i64 t9.2.2, .int .i64 ((p : Nat) : Int)], .own 35 4 v20 (ts ++ [(t9, p)]).length (cellsT (ts ++ [(t9, p)])), .row b1 24 [.int .i64 0, .int .i64 0]] (by rw [cellsT_snoc, List.length_append]; rfl)
              have hnew : lexL 0 l = preT (ts ++ [(t9, p)]) (lexL (p + t9.2.1.length) (l.drop (p + t9.2.1.length))) := by rw [hR.2.2, lexL_tok hsk ho, preT_cons, List.drop_drop]
              have hRn : ((p + t9.2.1.length)) ≤ l.length ∧ ((ts ++ [(t9, p)])).length ≤ ((p + t9.2.1.length)) ∧ lexL 0 l = preT ((ts ++ [(t9, p)])) (lexL ((p + t9.2.1.length)) (l.drop ((p + t9.2.1.length)))) := ⟨by omega, by rw [List.length_append]; simp only [List.length_cons, List.length_nil]; omega, hnew⟩
              have hmn : l.length - ((p + t9.2.1.length)) < l.length - p := by omega
              exact ⟨((p + t9.2.1.length), v20, (ts ++ [(t9, p)])), hK.sub ⟨rfl, rfl, rfl, rfl, rfl, rfl, trivial⟩, (hM.drop 2), hRn, hmn⟩
        · refine stepP hK 25 (.bool false) (by kernel_rfl) (okBool (b := (decide ((((c4.toNat : Nat) : Int) : Int) = 47))) (by kernel_rfl) (decide_eq_false h6)) fun a hK => ?_
          refine stepM hK 26 25 (by kernel_rfl) (.inl rfl) rfl fun a hK => ?_
          refine stepN hK 27 (by kernel_rfl) fun a hK => ?_
          refine stepN hK 28 (by kernel_rfl) fun a hK => ?_
          refine stepN hK 29 (by kernel_rfl) fun a hK => ?_
          refine stepN hK 30 (by kernel_rfl) fun a hK => ?_
          refine stepN hK 31 (by kernel_rfl) fun a hK => ?_
          refine stepP hK 32 (.bool false) (by kernel_rfl) (by kernel_rfl) fun a hK => ?_
          refine stepM hK 33 32 (by kernel_rfl) (.inl rfl) rfl fun a hK => ?_
          refine stepN hK 34 (by kernel_rfl) fun a hK => ?_
          refine stepN hK 35 (by kernel_rfl) fun a hK => ?_
          refine stepN hK 36 (by kernel_rfl) fun a hK => ?_
          refine stepN hK 37 (by kernel_rfl) fun a hK => ?_
          refine stepN hK 38 (by kernel_rfl) fun a hK => ?_
          refine stepP hK 39 (.bool false) (by kernel_rfl) (by kernel_rfl) fun a hK => ?_
          refine region_done hK [(39, .bool false), (19, .bool false), (15, .bool true), (10, .bool false), (3, .pointer (some ⟨b1, 0, none⟩)), (2, .slice none 0 0), (0, Str l), (5, .int .i64 ((p : Nat) : Int)), (4, v)] ⟨rfl, rfl, rfl, rfl, rfl, rfl, rfl, rfl, rfl, trivial⟩ fun a hK => ?_
          refine wp_cond_false (hK.get rfl) ?_
          refine wp_skip ?_
          refine wp_seq ?_
          have hsk := skip1_token hc4 ((isBlank_eq _).symm.trans h5) (two_no1 hc4 h6)
          refine region_go (lst := [0, 1, 2, 3, 4, 5, 6, 7, 8]) (by kernel_rfl) ?_
          refine stepM hK 53 0 (by kernel_rfl) (.inl rfl) rfl fun a hK => ?_
          refine stepM hK 54 5 (by kernel_rfl) (.inl rfl) rfl fun a hK => ?_
          rcases ho : oneOf (l.drop p) with _ | t9
          · refine stepRet hK hM 55 #[Str l, .int .i64 ((p : Nat) : Int)] (.tuple #[.agg #[.int .i64 0, Str [], .int .i64 0, .int .i64 0], .bool false]) (by kernel_rfl) (run_callE en_ref_one rfl rfl (by kernel_rfl)) (ret_eq (ref_one l p _ (by omega) (by omega)) (v' := (.tuple #[.agg #[.int .i64 0, Str [], .int .i64 0, .int .i64 0], .bool false])) (by rw [ho]; rfl)) fun a w hK hM => ?_
            refine stepM hK 52 55 (by kernel_rfl) (.inl rfl) rfl fun a hK => ?_
            refine stepP hK 56 (.agg #[.int .i64 0, Str [], .int .i64 0, .int .i64 0]) (by kernel_rfl) (by kernel_rfl) fun a hK => ?_
            refine stepP hK 57 (.bool false) (by kernel_rfl) (by kernel_rfl) fun a hK => ?_
            refine stepAlloc hK hM 6 35 [.int .i64 0, Str [], .int .i64 0, .int .i64 0] (fun b => .pointer (some ⟨b, 0, none⟩)) (by kernel_rfl) (by kernel_rfl) fun b21 a w hK hM => ?_
            refine stepStore hK hM 0 [.int .i64 0, Str [], .int .i64 0, .int .i64 0] (by kernel_rfl) rfl rfl rfl rfl (by kernel_rfl) fun w hM => ?_
            replace hM := hM.to [.row b21 35 [.int .i64 0, Str [], .int .i64 0, .int .i64 0], .own 35 4 v ts.length (cellsT ts), .row b1 24 [.int .i64 0, .int .i64 0]] (by kernel_rfl)
            refine stepM hK 7 57 (by kernel_rfl) (.inr rfl) rfl fun a hK => ?_
            refine region_done hK [(7, .bool false), (6, .pointer (some ⟨b21, 0, none⟩)), (39, .bool false), (19, .bool false), (15, .bool true), (10, .bool false), (3, .pointer (some ⟨b1, 0, none⟩)), (2, .slice none 0 0), (0, Str l), (5, .int .i64 ((p : Nat) : Int)), (4, v)] ⟨rfl, rfl, rfl, rfl, rfl, rfl, rfl, rfl, rfl, rfl, rfl, trivial⟩ fun a hK => ?_
            refine wp_seq ?_
            refine wp_seq ?_
            refine region_go (lst := [0, 1]) (by kernel_rfl) ?_
            refine stepM hK 58 7 (by kernel_rfl) (.inl rfl) rfl fun a hK => ?_
            refine stepP hK 59 (.bool true) (by kernel_rfl) (by kernel_rfl) fun a hK => ?_
            refine region_done hK [(59, .bool true), (7, .bool false), (6, .pointer (some ⟨b21, 0, none⟩)), (39, .bool false), (19, .bool false), (15, .bool true), (10, .bool false), (3, .pointer (some ⟨b1, 0, none⟩)), (2, .slice none 0 0), (0, Str l), (5, .int .i64 ((p : Nat) : Int)), (4, v)] ⟨rfl, rfl, rfl, rfl, rfl, rfl, rfl, rfl, rfl, rfl, rfl, rfl, trivial⟩ fun a hK => ?_
            refine wp_cond_true (hK.get rfl) ?_
            refine wp_seq ?_
            refine region_go (lst := [0, 1, 2, 3]) (by kernel_rfl) ?_
            refine stepM hK 60 5 (by kernel_rfl) (.inl rfl) rfl fun a hK => ?_
            refine stepP hK 61 (.agg #[.int .i64 4, .int .i64 ((p : Nat) : Int)]) (by kernel_rfl) (by kernel_rfl) fun a hK => ?_
            refine stepP hK 2 (.slice none 0 0) (by kernel_rfl) (by kernel_rfl) fun a hK => ?_
            refine stepStore hK hM 2 [.int .i64 4, .int .i64 ((p : Nat) : Int)] (by kernel_rfl) rfl rfl rfl rfl (by kernel_rfl) fun w hM => ?_
            replace hM := hM.to [.row b21 35 [.int .i64 0, Str [], .int .i64 0, .int .i64 0], .own 35 4 v ts.length (cellsT ts), .row b1 24 [.int .i64 4, .int .i64 ((p : Nat) : Int)]] (by kernel_rfl)
            refine region_done hK [(2, .slice none 0 0), (59, .bool true), (7, .bool false), (6, .pointer (some ⟨b21, 0, none⟩)), (39, .bool false), (19, .bool false), (15, .bool true), (10, .bool false), (3, .pointer (some ⟨b1, 0, none⟩)), (0, Str l), (5, .int .i64 ((p : Nat) : Int)), (4, v)] ⟨rfl, rfl, rfl, rfl, rfl, rfl, rfl, rfl, rfl, rfl, rfl, rfl, trivial⟩ fun a hK => ?_
            refine wp_ret ?_
            exact ret_tc hK rfl (v := (.slice none 0 0)) rfl rfl ((hM.row 2 rfl).cells 0 2) (u := (.agg #[.int .i64 4, .int .i64 ((p : Nat) : Int)])) (by kernel_rfl) (post_bad (p := p) (by omega) (by rw [hR.2.2, lexL_bad (by intro e; have := congrArg List.length e; rw [List.length_drop, List.length_nil] at this; omega) hsk ho]; rfl) ⟨rfl, hM.below⟩)
          · have h1l := one_len ho
            rw [List.length_drop] at h1l
            refine stepRet hK hM 55 #[Str l, .int .i64 ((p : Nat) : Int)] (.tuple #[.agg #[.int .i64 t9.1, Str t9.2.1, .int .i64 t9.2.2, .int .i64 ((p : Nat) : Int)], .bool true]) (by kernel_rfl) (run_callE en_ref_one rfl rfl (by kernel_rfl)) (ret_eq (ref_one l p _ (by omega) (by omega)) (v' := (.tuple #[.agg #[.int .i64 t9.1, Str t9.2.1, .int .i64 t9.2.2, .int .i64 ((p : Nat) : Int)], .bool true])) (by rw [ho]; rfl)) fun a w hK hM => ?_
            refine stepM hK 52 55 (by kernel_rfl) (.inl rfl) rfl fun a hK => ?_
            refine stepP hK 56 (.agg #[.int .i64 t9.1, Str t9.2.1, .int .i64 t9.2.2, .int .i64 ((p : Nat) : Int)]) (by kernel_rfl) (by kernel_rfl) fun a hK => ?_
            refine stepP hK 57 (.bool true) (by kernel_rfl) (by kernel_rfl) fun a hK => ?_
            refine stepAlloc hK hM 6 35 [.int .i64 0, Str [], .int .i64 0, .int .i64 0] (fun b => .pointer (some ⟨b, 0, none⟩)) (by kernel_rfl) (by kernel_rfl) fun b22 a w hK hM => ?_
            refine stepStore hK hM 0 [.int .i64 t9.1, Str t9.2.1, .int .i64 t9.2.2, .int .i64 ((p : Nat) : Int)] (by kernel_rfl) rfl rfl rfl rfl (by kernel_rfl) fun w hM => ?_
            replace hM := hM.to [.row b22 35 [.int .i64 t9.1, Str t9.2.1, .int .i64 t9.2.2, .int .i64 ((p : Nat) : Int)], .own 35 4 v ts.length (cellsT ts), .row b1 24 [.int .i64 0, .int .i64 0]] (by kernel_rfl)
            refine stepM hK 7 57 (by kernel_rfl) (.inr rfl) rfl fun a hK => ?_
            refine region_done hK [(7, .bool true), (6, .pointer (some ⟨b22, 0, none⟩)), (39, .bool false), (19, .bool false), (15, .bool true), (10, .bool false), (3, .pointer (some ⟨b1, 0, none⟩)), (2, .slice none 0 0), (0, Str l), (5, .int .i64 ((p : Nat) : Int)), (4, v)] ⟨rfl, rfl, rfl, rfl, rfl, rfl, rfl, rfl, rfl, rfl, rfl, trivial⟩ fun a hK => ?_
            refine wp_seq ?_
            refine wp_seq ?_
            refine region_go (lst := [0, 1]) (by kernel_rfl) ?_
            refine stepM hK 58 7 (by kernel_rfl) (.inl rfl) rfl fun a hK => ?_
            refine stepP hK 59 (.bool false) (by kernel_rfl) (by kernel_rfl) fun a hK => ?_
            refine region_done hK [(59, .bool false), (7, .bool true), (6, .pointer (some ⟨b22, 0, none⟩)), (39, .bool false), (19, .bool false), (15, .bool true), (10, .bool false), (3, .pointer (some ⟨b1, 0, none⟩)), (2, .slice none 0 0), (0, Str l), (5, .int .i64 ((p : Nat) : Int)), (4, v)] ⟨rfl, rfl, rfl, rfl, rfl, rfl, rfl, rfl, rfl, rfl, rfl, rfl, trivial⟩ fun a hK => ?_
            refine wp_cond_false (hK.get rfl) ?_
            refine wp_skip ?_
            refine wp_seq ?_
            refine region_go (lst := [0, 1, 2, 3, 4]) (by kernel_rfl) ?_
            refine stepM hK 62 4 (by kernel_rfl) (.inl rfl) rfl fun a hK => ?_
            refine stepLoad hK 63 (.agg #[.int .i64 t9.1, Str t9.2.1, .int .i64 t9.2.2, .int .i64 ((p : Nat) : Int)]) (by kernel_rfl) rfl rfl ((hM.row 0 rfl).cells 0 4) (by kernel_rfl) fun a hK => ?_
            refine stepAlloc hK hM 64 35 [.int .i64 t9.1, Str t9.2.1, .int .i64 t9.2.2, .int .i64 ((p : Nat) : Int)] (fun b => .slice (some ⟨b, 0, none⟩) 1 1) (by kernel_rfl) (by kernel_rfl) fun b23 a w hK hM => ?_
            refine stepAppend hK hM 65 2 0 (ety := 35) (size := 4) (m := 1) (news := [.int .i64 t9.1, Str t9.2.1, .int .i64 t9.2.2, .int .i64 ((p : Nat) : Int)]) Tryd.underlying29 elem_tok (by kernel_rfl) rfl rfl rfl rfl rfl rfl (by kernel_rfl) ⟨by omega, by decide⟩ ?_
            intro v24 a w hK hM
            replace hM := hM.to [.row b23 35 [.int .i64 t9.1, Str t9.2.1, .int .i64 t9.2.2, .int .i64 ((p : Nat) : Int)], .row b22 35 [.int .i64 t9.1, Str t9.2.1, .int .i64 t9.2.2, .int .i64 ((p : Nat) : Int)], .own 35 4 v24 (ts.length + 1) ((cellsT ts) ++ [.int .i64 t9.1, Str t9.2.1, .int .i64 t9.2.2, .int .i64 ((p : Nat) : Int)]), .row b1 24 [.int .i64 0, .int .i64 0]] (by kernel_rfl)
            refine stepM hK 4 65 (by kernel_rfl) (.inr rfl) rfl fun a hK => ?_
            refine region_done hK [(4, v24), (59, .bool false), (7, .bool true), (6, .pointer (some ⟨b22, 0, none⟩)), (39, .bool false), (19, .bool false), (15, .bool true), (10, .bool false), (3, .pointer (some ⟨b1, 0, none⟩)), (2, .slice none 0 0), (0, Str l), (5, .int .i64 ((p : Nat) : Int))] ⟨rfl, rfl, rfl, rfl, rfl, rfl, rfl, rfl, rfl, rfl, rfl, rfl, trivial⟩ fun a hK => ?_
            refine region_go (lst := [0, 1, 2, 3, 4, 5]) (by kernel_rfl) ?_
            refine stepM hK 66 5 (by kernel_rfl) (.inl rfl) rfl fun a hK => ?_
            refine stepP hK 67 (.pointer (some ⟨b22, 1, none⟩)) (by kernel_rfl) (by kernel_rfl) fun a hK => ?_
            refine stepLoad hK 68 (Str t9.2.1) (by kernel_rfl) rfl rfl ((hM.row 1 rfl).cells 1 1) (by kernel_rfl) fun a hK => ?_
            refine stepP hK 69 (.int .i64 ((t9.2.1.length : Nat) : Int)) (by kernel_rfl) (by kernel_rfl) fun a hK => ?_
            refine stepP hK 70 (.int .i64 (((p + t9.2.1.length) : Nat) : Int)) (by kernel_rfl) (run_addN (i := p) (j := t9.2.1.length) rfl rfl rfl (by omega)) fun a hK => ?_
            refine stepM hK 5 70 (by kernel_rfl) (.inr rfl) rfl fun a hK => ?_
            refine region_done hK [(5, .int .i64 (((p + t9.2.1.length) : Nat) : Int)), (4, v24), (59, .bool false), (7, .bool true), (6, .pointer (some ⟨b22, 0, none⟩)), (39, .bool false), (19, .bool false), (15, .bool true), (10, .bool false), (3, .pointer (some ⟨b1, 0, none⟩)), (2, .slice none 0 0), (0, Str l)] ⟨rfl, rfl, rfl, rfl, rfl, rfl, rfl, rfl, rfl, rfl, rfl, rfl, trivial⟩ fun a hK => ?_
            replace hM := hM.to [.row b23 35 [.int .i64 t9.1, Str t9.2.1, .int .i64 t9.2.2, .int .i64 ((p : Nat) : Int)], .row b22 35 [.int .i64 t9.1, Str t9.2.1, .int .i64 t9.2.2, .int .i64 ((p : Nat) : Int)], .own 35 4 v24 (ts ++ [(t9, p)]).length (cellsT (ts ++ [(t9, p)])), .row b1 24 [.int .i64 0, .int .i64 0]] (by rw [cellsT_snoc, List.length_append]; rfl)
            have hnew : lexL 0 l = preT (ts ++ [(t9, p)]) (lexL (p + t9.2.1.length) (l.drop (p + t9.2.1.length))) := by rw [hR.2.2, lexL_tok hsk ho, preT_cons, List.drop_drop]
            have hRn : ((p + t9.2.1.length)) ≤ l.length ∧ ((ts ++ [(t9, p)])).length ≤ ((p + t9.2.1.length)) ∧ lexL 0 l = preT ((ts ++ [(t9, p)])) (lexL ((p + t9.2.1.length)) (l.drop ((p + t9.2.1.length)))) := ⟨by omega, by rw [List.length_append]; simp only [List.length_cons, List.length_nil]; omega, hnew⟩
            have hmn : l.length - ((p + t9.2.1.length)) < l.length - p := by omega
            exact ⟨((p + t9.2.1.length), v24, (ts ++ [(t9, p)])), hK.sub ⟨rfl, rfl, rfl, rfl, rfl, rfl, trivial⟩, (hM.drop 2), hRn, hmn⟩
    · refine stepP hK 15 (.bool false) (by kernel_rfl) (okBool (b := (decide ((((p : Nat) : Int) : Int) < ((l.length : Nat) : Int)))) (by kernel_rfl) (decide_eq_false h3)) fun a hK => ?_
      refine region_done hK [(15, .bool false), (10, .bool false), (3, .pointer (some ⟨b1, 0, none⟩)), (2, .slice none 0 0), (0, Str l), (5, .int .i64 ((p : Nat) : Int)), (4, v)] ⟨rfl, rfl, rfl, rfl, rfl, rfl, rfl, trivial⟩ fun a hK => ?_
      refine wp_cond_false (hK.get rfl) ?_
      refine wp_exit (exit_then (exit_then (exit_here 0 ?_)))
      refine wp_seq ?_
      refine region_go (lst := [0, 1, 2, 3, 4, 5, 6, 7, 8]) (by kernel_rfl) ?_
      refine stepM hK 71 4 (by kernel_rfl) (.inl rfl) rfl fun a hK => ?_
      refine stepM hK 72 0 (by kernel_rfl) (.inl rfl) rfl fun a hK => ?_
      refine stepP hK 73 (.int .i64 ((l.length : Nat) : Int)) (by kernel_rfl) (by kernel_rfl) fun a hK => ?_
      refine stepP hK 74 (.agg #[.int .i64 5, Str [], .int .i64 0, .int .i64 ((l.length : Nat) : Int)]) (by kernel_rfl) (by kernel_rfl) fun a hK => ?_
      refine stepAlloc hK hM 75 35 [.int .i64 5, Str [], .int .i64 0, .int .i64 ((l.length : Nat) : Int)] (fun b => .slice (some ⟨b, 0, none⟩) 1 1) (by kernel_rfl) (by kernel_rfl) fun b25 a w hK hM => ?_
      refine stepAppend hK hM 76 1 0 (ety := 35) (size := 4) (m := 1) (news := [.int .i64 5, Str [], .int .i64 0, .int .i64 ((l.length : Nat) : Int)]) Tryd.underlying29 elem_tok (by kernel_rfl) rfl rfl rfl rfl rfl rfl (by kernel_rfl) ⟨by omega, by decide⟩ ?_
      intro v26 a w hK hM
      replace hM := hM.to [.row b25 35 [.int .i64 5, Str [], .int .i64 0, .int .i64 ((l.length : Nat) : Int)], .own 35 4 v26 (ts.length + 1) ((cellsT ts) ++ [.int .i64 5, Str [], .int .i64 0, .int .i64 ((l.length : Nat) : Int)]), .row b1 24 [.int .i64 0, .int .i64 0]] (by kernel_rfl)
      refine stepP hK 77 (.agg #[.int .i64 0, .int .i64 0]) (by kernel_rfl) (by kernel_rfl) fun a hK => ?_
      refine stepM hK 2 76 (by kernel_rfl) (.inr rfl) rfl fun a hK => ?_
      refine stepStore hK hM 2 [.int .i64 0, .int .i64 0] (by kernel_rfl) rfl rfl rfl rfl (by kernel_rfl) fun w hM => ?_
      replace hM := hM.to [.row b25 35 [.int .i64 5, Str [], .int .i64 0, .int .i64 ((l.length : Nat) : Int)], .own 35 4 v26 (ts.length + 1) ((cellsT ts) ++ [.int .i64 5, Str [], .int .i64 0, .int .i64 ((l.length : Nat) : Int)]), .row b1 24 [.int .i64 0, .int .i64 0]] (by kernel_rfl)
      refine region_done hK [(2, v26), (15, .bool false), (10, .bool false), (3, .pointer (some ⟨b1, 0, none⟩)), (0, Str l), (5, .int .i64 ((p : Nat) : Int)), (4, v)] ⟨rfl, rfl, rfl, rfl, rfl, rfl, rfl, trivial⟩ fun a hK => ?_
      refine wp_ret ?_
      exact ret_tc hK rfl (v := v26) rfl rfl ((hM.row 2 rfl).cells 0 2) (u := (.agg #[.int .i64 0, .int .i64 0])) (by kernel_rfl) (post_good (ts := ts) (by omega) (by rw [hR.2.2, show p = l.length by omega, List.drop_length, lexL_nil]; show Sum.inr (ts ++ []) = _; rw [List.append_nil]) ((hM.pick 1 rfl).to _ (by rw [cellsT_snoc, List.length_append]; rfl)))
theorem en_cantileverref02_All : Enters Tryd.prog 12 := enters_of Tryd.func12 (by kernel_rfl) rfl
end Go.Proofs.YtbcfggdifljacaaDoor
