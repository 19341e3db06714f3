/-
  Package lex: run, gap.
-/
import Derived.Test.YtbcfggdifljacaaDoorLpA
namespace Go.Proofs.YtbcfggdifljacaaDoor
open Go Go.RowKit

/-- How many bytes of one sort stand at a text's beginning. -/
def runL (p : UInt8 → Bool) (l : List UInt8) : Nat := (l.takeWhile p).length
theorem takeWhile_all {p : UInt8 → Bool} : ∀ {l : List UInt8}, (∀ (j : Nat) (c : UInt8), j < l.length → l[j]? = some c → p c = true) → l.takeWhile p = l := by
  intro l h
  have := take_of_all l l.length (Nat.le_refl _) (fun j c hj hc => h j c hj hc) (fun c hc => by rw [List.getElem?_eq_none (Nat.le_refl _)] at hc; cases hc)
  rw [← this, List.take_length]
theorem runL_all {p : UInt8 → Bool} {l : List UInt8} (h : ∀ (j : Nat) (c : UInt8), j < l.length → l[j]? = some c → p c = true) : l.length = runL p l := by
  unfold runL; rw [takeWhile_all h]
theorem runL_at {p : UInt8 → Bool} {l : List UInt8} {i : Nat} {c : UInt8} (hi : i ≤ l.length) (h : ∀ (j : Nat) (c : UInt8), j < i → l[j]? = some c → p c = true) (hc : l[i]? = some c) (hp : p c = false) : i = runL p l := by
  unfold runL
  rw [← take_of_all l i hi h (fun d hd => by rw [hc] at hd; rw [← Option.some.inj hd]; exact hp), List.length_take]
  omega
theorem runL_le (p : UInt8 → Bool) (l : List UInt8) : runL p l ≤ l.length := by
  unfold runL; exact (List.takeWhile_prefix p).length_le
set_option maxRecDepth 100000 in
set_option maxHeartbeats 4000000 in
theorem lex_run (l : List UInt8) (hlen : l.length ≤ 4611686018427387904) (g : Nat) (p : UInt8 → Bool) (he : Enters Tryd.prog g) (hp : ∀ (c : UInt8) (w : World), Calls Tryd.prog g #[.int .u8 ((c.toNat : Nat) : Int)] w (Ret w (.bool (p c)))) (w0 : World) : Calls Tryd.prog 20 #[Str l, .func (.func g) #[] #[]] w0 (Ret w0 (.int .i64 ((runL p l : Nat) : Int))) := by
  refine calls_K (args := [Str l, .func (.func g) #[] #[]]) (n := 21) (env := [(0, Str l), (1, .func (.func g) #[] #[])]) Tryd.func20 rfl rfl rfl ⟨rfl, rfl, trivial⟩ fun a w hK hM => ?_
  refine wp_seq ?_
  refine region_go (lst := [0]) (by kernel_rfl) ?_
  refine stepP hK 4 (.int .i64 0) (by kernel_rfl) (by kernel_rfl) fun a hK => ?_
  refine region_done hK [(4, .int .i64 0), (0, Str l), (1, .func (.func g) #[] #[])] ⟨rfl, rfl, rfl, trivial⟩ fun a hK => ?_
  refine wp_seq ?_
  refine wp_seq ?_
  refine region_go (lst := [0, 1, 2]) (by kernel_rfl) ?_
  refine stepM hK 6 0 (by kernel_rfl) (.inl rfl) rfl fun a hK => ?_
  refine stepP hK 7 (.int .i64 ((l.length : Nat) : Int)) (by kernel_rfl) (by kernel_rfl) fun a hK => ?_
  refine stepP hK 8 (.int .i64 0) (by kernel_rfl) (by kernel_rfl) fun a hK => ?_
  refine region_done hK [(8, .int .i64 0), (7, .int .i64 ((l.length : Nat) : Int)), (4, .int .i64 0), (0, Str l), (1, .func (.func g) #[] #[])] ⟨rfl, rfl, rfl, rfl, rfl, trivial⟩ fun a hK => ?_
  refine wp_block ?_
  refine wp_loopX (fun x : Nat => [(7, .int .i64 ((l.length : Nat) : Int)), (4, .int .i64 0), (0, Str l), (1, .func (.func g) #[] #[]), (8, .int .i64 ((x : Nat) : Int))]) (fun x : Nat => []) (fun x : Nat => x ≤ l.length ∧ ∀ (j : Nat) (c : UInt8), j < x → l[j]? = some c → p c = true) (fun x : Nat => l.length - x) 0 (hK.sub ⟨rfl, rfl, rfl, rfl, rfl, trivial⟩) hM ⟨Nat.zero_le _, fun j c hj => absurd hj (Nat.not_lt_zero j)⟩ ?_
  rintro i a w hK hM hR
  replace hK : Knows a 21 [(7, .int .i64 ((l.length : Nat) : Int)), (4, .int .i64 0), (0, Str l), (1, .func (.func g) #[] #[]), (8, .int .i64 ((i : Nat) : Int))] := hK
  replace hM : Mem w0 w [] := hM
  replace hR : i ≤ l.length ∧ ∀ (j : Nat) (c : UInt8), j < i → l[j]? = some c → p c = true := hR
  refine wp_seq ?_
  refine region_go (lst := [0]) (by kernel_rfl) ?_
  by_cases h1 : (((i : Nat) : Int) : Int) < ((l.length : Nat) : Int)
  · refine stepP hK 9 (.bool true) (by kernel_rfl) (okBool (b := (decide ((((i : Nat) : Int) : Int) < ((l.length : Nat) : Int)))) (by kernel_rfl) (decide_eq_true h1)) fun a hK => ?_
    refine region_done hK [(9, .bool true), (7, .int .i64 ((l.length : Nat) : Int)), (4, .int .i64 0), (0, Str l), (1, .func (.func g) #[] #[]), (8, .int .i64 ((i : Nat) : Int))] ⟨rfl, rfl, rfl, rfl, rfl, rfl, trivial⟩ fun a hK => ?_
    refine wp_seq ?_
    refine wp_cond_true (hK.get rfl) ?_
    refine wp_skip ?_
    refine wp_seq ?_
    refine wp_block ?_
    refine wp_seq ?_
    refine region_go (lst := [0, 1]) (by kernel_rfl) ?_
    refine stepM hK 10 8 (by kernel_rfl) (.inl rfl) rfl fun a hK => ?_
    refine stepM hK 5 10 (by kernel_rfl) (.inr rfl) rfl fun a hK => ?_
    refine region_done hK [(5, .int .i64 ((i : Nat) : Int)), (9, .bool true), (7, .int .i64 ((l.length : Nat) : Int)), (4, .int .i64 0), (0, Str l), (1, .func (.func g) #[] #[]), (8, .int .i64 ((i : Nat) : Int))] ⟨rfl, rfl, rfl, rfl, rfl, rfl, rfl, trivial⟩ fun a hK => ?_
    refine wp_seq ?_
    refine region_go (lst := [0, 1, 2, 3, 4, 5]) (by kernel_rfl) ?_
    refine stepM hK 11 1 (by kernel_rfl) (.inl rfl) rfl fun a hK => ?_
    refine stepM hK 12 0 (by kernel_rfl) (.inl rfl) rfl fun a hK => ?_
    refine stepM hK 13 5 (by kernel_rfl) (.inl rfl) rfl fun a hK => ?_
    obtain ⟨c2, hc2⟩ : ∃ c, l[(i : Nat)]? = some c := ⟨_, List.getElem?_eq_getElem (by omega)⟩
    refine stepP hK 14 (.int .u8 ((c2.toNat : Nat) : Int)) (by kernel_rfl) (run_idxS (k := i) rfl rfl rfl hc2) fun a hK => ?_
    rcases Bool.eq_false_or_eq_true (p c2) with h3 | h3
    · refine stepRet hK hM 15 #[.int .u8 ((c2.toNat : Nat) : Int)] (.bool true) (by kernel_rfl) (run_callE he rfl rfl (by kernel_rfl)) (ret_eq (hp c2 _) (congrArg Value.bool h3)) fun a w hK hM => ?_
      refine stepP hK 16 (.bool false) (by kernel_rfl) (by kernel_rfl) fun a hK => ?_
      refine region_done hK [(16, .bool false), (5, .int .i64 ((i : Nat) : Int)), (9, .bool true), (7, .int .i64 ((l.length : Nat) : Int)), (4, .int .i64 0), (0, Str l), (1, .func (.func g) #[] #[]), (8, .int .i64 ((i : Nat) : Int))] ⟨rfl, rfl, rfl, rfl, rfl, rfl, rfl, rfl, trivial⟩ fun a hK => ?_
      refine wp_cond_false (hK.get rfl) ?_
      refine wp_skip ?_
      refine region_go (lst := [0, 1]) (by kernel_rfl) ?_
      refine stepP hK 18 (.int .i64 (((i + 1) : Nat) : Int)) (by kernel_rfl) (run_addN (i := i) (j := 1) rfl rfl rfl (by omega)) fun a hK => ?_
      refine stepM hK 8 18 (by kernel_rfl) (.inl rfl) rfl fun a hK => ?_
      refine region_done hK [(8, .int .i64 (((i + 1) : Nat) : Int)), (16, .bool false), (5, .int .i64 ((i : Nat) : Int)), (9, .bool true), (7, .int .i64 ((l.length : Nat) : Int)), (4, .int .i64 0), (0, Str l), (1, .func (.func g) #[] #[])] ⟨rfl, rfl, rfl, rfl, rfl, rfl, rfl, rfl, trivial⟩ fun a hK => ?_
      have hRn : (i + 1) ≤ l.length ∧ ∀ (j : Nat) (c : UInt8), j < (i + 1) → l[j]? = some c → p c = true := ⟨by omega, fun j d hj hd => (Nat.lt_succ_iff_lt_or_eq.1 hj).elim (fun h => hR.2 j d h hd) (fun h => by subst h; rw [hc2] at hd; rw [← Option.some.inj hd]; exact h3)⟩
      have hmn : l.length - (i + 1) < l.length - i := by omega
      exact ⟨i + 1, hK.sub ⟨rfl, rfl, rfl, rfl, rfl, trivial⟩, hM, hRn, hmn⟩
    · refine stepRet hK hM 15 #[.int .u8 ((c2.toNat : Nat) : Int)] (.bool false) (by kernel_rfl) (run_callE he rfl rfl (by kernel_rfl)) (ret_eq (hp c2 _) (congrArg Value.bool h3)) fun a w hK hM => ?_
      refine stepP hK 16 (.bool true) (by kernel_rfl) (by kernel_rfl) fun a hK => ?_
      refine region_done hK [(16, .bool true), (5, .int .i64 ((i : Nat) : Int)), (9, .bool true), (7, .int .i64 ((l.length : Nat) : Int)), (4, .int .i64 0), (0, Str l), (1, .func (.func g) #[] #[]), (8, .int .i64 ((i : Nat) : Int))] ⟨rfl, rfl, rfl, rfl, rfl, rfl, rfl, rfl, trivial⟩ fun a hK => ?_
      refine wp_cond_true (hK.get rfl) ?_
      refine wp_seq ?_
      refine region_go (lst := [0, 1]) (by kernel_rfl) ?_
      refine stepM hK 17 5 (by kernel_rfl) (.inl rfl) rfl fun a hK => ?_
      refine stepM hK 4 17 (by kernel_rfl) (.inr rfl) rfl fun a hK => ?_
      refine region_done hK [(4, .int .i64 ((i : Nat) : Int)), (16, .bool true), (5, .int .i64 ((i : Nat) : Int)), (9, .bool true), (7, .int .i64 ((l.length : Nat) : Int)), (0, Str l), (1, .func (.func g) #[] #[]), (8, .int .i64 ((i : Nat) : Int))] ⟨rfl, rfl, rfl, rfl, rfl, rfl, rfl, rfl, trivial⟩ fun a hK => ?_
      refine wp_ret ?_
      exact ret_t hK rfl (u := (.int .i64 ((i : Nat) : Int))) rfl (⟨congrArg (fun q : Nat => Ending.returned (.int .i64 (q : Int))) (runL_at hR.1 hR.2 hc2 h3), hM.below⟩)
  · refine stepP hK 9 (.bool false) (by kernel_rfl) (okBool (b := (decide ((((i : Nat) : Int) : Int) < ((l.length : Nat) : Int)))) (by kernel_rfl) (decide_eq_false h1)) fun a hK => ?_
    refine region_done hK [(9, .bool false), (7, .int .i64 ((l.length : Nat) : Int)), (4, .int .i64 0), (0, Str l), (1, .func (.func g) #[] #[]), (8, .int .i64 ((i : Nat) : Int))] ⟨rfl, rfl, rfl, rfl, rfl, rfl, trivial⟩ fun a hK => ?_
    refine wp_seq ?_
    refine wp_cond_false (hK.get rfl) ?_
    refine wp_exit (exit_then (exit_then (exit_here 0 ?_)))
    refine wp_seq ?_
    refine region_go (lst := [0, 1, 2]) (by kernel_rfl) ?_
    refine stepM hK 19 0 (by kernel_rfl) (.inl rfl) rfl fun a hK => ?_
    refine stepP hK 20 (.int .i64 ((l.length : Nat) : Int)) (by kernel_rfl) (by kernel_rfl) fun a hK => ?_
    refine stepM hK 4 20 (by kernel_rfl) (.inr rfl) rfl fun a hK => ?_
    refine region_done hK [(4, .int .i64 ((l.length : Nat) : Int)), (9, .bool false), (7, .int .i64 ((l.length : Nat) : Int)), (0, Str l), (1, .func (.func g) #[] #[]), (8, .int .i64 ((i : Nat) : Int))] ⟨rfl, rfl, rfl, rfl, rfl, rfl, trivial⟩ fun a hK => ?_
    refine wp_ret ?_
    exact ret_t hK rfl (u := (.int .i64 ((l.length : Nat) : Int))) rfl (⟨congrArg (fun q : Nat => Ending.returned (.int .i64 (q : Int))) (runL_all (fun j c hj hc => hR.2 j c (by omega) hc)), hM.below⟩)
theorem en_lex_run : Enters Tryd.prog 20 := enters_of Tryd.func20 (by kernel_rfl) rfl
end Go.Proofs.YtbcfggdifljacaaDoor
