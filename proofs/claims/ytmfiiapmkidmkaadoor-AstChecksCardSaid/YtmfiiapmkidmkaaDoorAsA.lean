/-
 The document's sizes and depths of trees.
-/
import Derived.Test.YtmfiiapmkidmkaaDoorTreeB
namespace Go.Proofs.YtmfiiapmkidmkaaDoor
open Go Go.RowKit

theorem en_cantileverref03_size : Enters Tryd.prog 41 := enters_of Tryd.func41 (by kernel_rfl) rfl
theorem en_cantileverref03_deep : Enters Tryd.prog 42 := enters_of Tryd.func42 (by kernel_rfl) rfl
theorem en_cantileverref03_sizes : Enters Tryd.prog 45 := enters_of Tryd.func45 (by kernel_rfl) rfl
theorem en_cantileverref03_deeps : Enters Tryd.prog 46 := enters_of Tryd.func46 (by kernel_rfl) rfl
set_option maxRecDepth 100000 in
set_option maxHeartbeats 4000000 in
theorem ref_size (e : Ex) : ∀ (w0 : World), ExAt w0 e → e.sz ≤ 1000000 → Calls Tryd.prog 41 #[.agg #[.int .i64 e.op, .int .i64 e.num, Str e.nm, .slice e.A e.ks.length e.c]] w0 (Ret w0 (.int .i64 ((e.sz : Nat) : Int))) := by
 induction e using Ex.rec_on
 rename_i e ih
 intro w0 he hsz
 have hln := exsSz_len e.ks; have hse := sz_eq e
 refine calls_K (args := [.agg #[.int .i64 e.op, .int .i64 e.num, Str e.nm, .slice e.A e.ks.length e.c]]) (n := 21) (env := [(0, .agg #[.int .i64 e.op, .int .i64 e.num, Str e.nm, .slice e.A e.ks.length e.c])]) Tryd.func41 rfl rfl rfl ⟨rfl, trivial⟩ fun a w hK hM => ?_
 refine wp_seq ?_
 refine region_go (lst := [0, 1]) (by kernel_rfl) ?_
 refine stepAlloc hK hM 1 36 [.int .i64 e.op, .int .i64 e.num, Str e.nm, .slice e.A e.ks.length e.c] (fun b => .pointer (some ⟨b, 0, none⟩)) (by kernel_rfl) (by kernel_rfl) fun b1 a w hK hM => ?_
 refine stepP hK 2 (.int .i64 0) (by kernel_rfl) (by kernel_rfl) fun a hK => ?_
 refine region_done hK [(2, .int .i64 0), (1, .pointer (some ⟨b1, 0, none⟩)), (0, .agg #[.int .i64 e.op, .int .i64 e.num, Str e.nm, .slice e.A e.ks.length e.c])] ⟨rfl, rfl, rfl, trivial⟩ fun a hK => ?_
 refine wp_seq ?_
 refine region_go (lst := [0]) (by kernel_rfl) ?_
 refine stepP hK 3 (.int .i64 1) (by kernel_rfl) (by kernel_rfl) fun a hK => ?_
 refine region_done hK [(3, .int .i64 1), (2, .int .i64 0), (1, .pointer (some ⟨b1, 0, none⟩)), (0, .agg #[.int .i64 e.op, .int .i64 e.num, Str e.nm, .slice e.A e.ks.length e.c])] ⟨rfl, rfl, rfl, rfl, trivial⟩ fun a hK => ?_
 refine wp_seq ?_
 refine wp_seq ?_
 refine region_go (lst := [0]) (by kernel_rfl) ?_
 refine stepP hK 4 (.int .i64 0) (by kernel_rfl) (by kernel_rfl) fun a hK => ?_
 refine region_done hK [(4, .int .i64 0), (3, .int .i64 1), (2, .int .i64 0), (1, .pointer (some ⟨b1, 0, none⟩)), (0, .agg #[.int .i64 e.op, .int .i64 e.num, Str e.nm, .slice e.A e.ks.length e.c])] ⟨rfl, rfl, rfl, rfl, rfl, trivial⟩ fun a hK => ?_
 refine wp_block ?_
 refine wp_loopX (fun x : Nat × Nat => [(2, .int .i64 0), (1, .pointer (some ⟨b1, 0, none⟩)), (0, .agg #[.int .i64 e.op, .int .i64 e.num, Str e.nm, .slice e.A e.ks.length e.c]), (4, .int .i64 ((x.1 : Nat) : Int)), (3, .int .i64 ((x.2 : Nat) : Int))]) (fun x : Nat × Nat => [.row b1 36 [.int .i64 e.op, .int .i64 e.num, Str e.nm, .slice e.A e.ks.length e.c]]) (fun x : Nat × Nat => x.1 ≤ e.ks.length ∧ x.2 = exsSz (e.ks.take x.1) + 1) (fun x : Nat × Nat => e.ks.length - x.1) (0, 1) (hK.sub ⟨rfl, rfl, rfl, rfl, rfl, trivial⟩) hM ⟨Nat.zero_le _, rfl⟩ ?_
 rintro ⟨i, m⟩ a w hK hM hR
 replace hK : Knows a 21 [(2, .int .i64 0), (1, .pointer (some ⟨b1, 0, none⟩)), (0, .agg #[.int .i64 e.op, .int .i64 e.num, Str e.nm, .slice e.A e.ks.length e.c]), (4, .int .i64 ((i : Nat) : Int)), (3, .int .i64 ((m : Nat) : Int))] := hK
 replace hM : Mem w0 w [.row b1 36 [.int .i64 e.op, .int .i64 e.num, Str e.nm, .slice e.A e.ks.length e.c]] := hM
 replace hR : i ≤ e.ks.length ∧ m = exsSz (e.ks.take i) + 1 := hR
 refine wp_seq ?_
 refine wp_seq ?_
 refine region_go (lst := [0, 1, 2, 3, 4]) (by kernel_rfl) ?_
 refine stepM hK 5 4 (by kernel_rfl) (.inl rfl) rfl fun a hK => ?_
 refine stepP hK 6 (.pointer (some ⟨b1, 3, none⟩)) (by kernel_rfl) (by kernel_rfl) fun a hK => ?_
 refine stepLoad hK 7 (.slice e.A e.ks.length e.c) (by kernel_rfl) rfl rfl ((hM.row 0 rfl).cells 3 1) (by kernel_rfl) fun a hK => ?_
 refine stepP hK 8 (.int .i64 ((e.ks.length : Nat) : Int)) (by kernel_rfl) (by kernel_rfl) fun a hK => ?_
 by_cases h2 : (((i : Nat) : Int) : Int) < ((e.ks.length : Nat) : Int)
 ·refine stepP hK 9 (.bool true) (by kernel_rfl) (okBool (b := (decide ((((i : Nat) : Int) : Int) < ((e.ks.length : Nat) : Int)))) (by kernel_rfl) (decide_eq_true h2)) fun a hK => ?_
  refine region_done hK [(9, .bool true), (2, .int .i64 0), (1, .pointer (some ⟨b1, 0, none⟩)), (0, .agg #[.int .i64 e.op, .int .i64 e.num, Str e.nm, .slice e.A e.ks.length e.c]), (4, .int .i64 ((i : Nat) : Int)), (3, .int .i64 ((m : Nat) : Int))] ⟨rfl, rfl, rfl, rfl, rfl, rfl, trivial⟩ fun a hK => ?_
  refine wp_cond_true (hK.get rfl) ?_
  refine wp_skip ?_
  refine wp_seq ?_
  refine wp_block ?_
  refine region_go (lst := [0, 1, 2, 3, 4, 5, 6, 7, 8]) (by kernel_rfl) ?_
  refine stepM hK 12 3 (by kernel_rfl) (.inl rfl) rfl fun a hK => ?_
  refine stepP hK 13 (.pointer (some ⟨b1, 3, none⟩)) (by kernel_rfl) (by kernel_rfl) fun a hK => ?_
  refine stepLoad hK 14 (.slice e.A e.ks.length e.c) (by kernel_rfl) rfl rfl ((hM.row 0 rfl).cells 3 1) (by kernel_rfl) fun a hK => ?_
  refine stepM hK 15 4 (by kernel_rfl) (.inl rfl) rfl fun a hK => ?_
  obtain ⟨t3, ht3⟩ : ∃ t, e.ks[(i : Nat)]? = some t := ⟨_, List.getElem?_eq_getElem (by omega)⟩
  obtain ⟨⟨at3, At3, ct3⟩, et3⟩ := he.kids _ _ ht3; have nt3 := et3.len
  refine stepP hK 16 (.pointer (some (at3.add (i * 4)))) (by kernel_rfl) (run_ixA (k := i) (s := 4) rfl rfl At3 rfl Tryd.underlying27 (by kernel_rfl) (by omega)) fun a hK => ?_
  refine stepLoad hK 17 (.agg #[.int .i64 t3.op, .int .i64 t3.num, Str t3.nm, .slice t3.A t3.ks.length t3.c]) (by kernel_rfl) rfl rfl ((ct3.on hM.below)) (by kernel_rfl) fun a hK => ?_
  refine stepRet hK hM 18 #[.agg #[.int .i64 t3.op, .int .i64 t3.num, Str t3.nm, .slice t3.A t3.ks.length t3.c]] (.int .i64 ((t3.sz : Nat) : Int)) (by kernel_rfl) (run_callE en_cantileverref03_size rfl rfl (by kernel_rfl)) (ih t3 (List.mem_of_getElem? ht3) _ (et3.on hM.below) (by have h1 := exsSz_mem (List.mem_of_getElem? ht3); have h2 := sz_eq e; omega)) fun a w hK hM => ?_
  refine stepP hK 19 (.int .i64 (((m + t3.sz) : Nat) : Int)) (by kernel_rfl) (run_addN (i := m) (j := t3.sz) rfl rfl rfl (by have h1 := exsSz_take ht3; have h2 := exsSz_le (l := e.ks) (i := i + 1); have h3 := sz_eq e; omega)) fun a hK => ?_
  refine stepM hK 3 19 (by kernel_rfl) (.inr rfl) rfl fun a hK => ?_
  refine region_done hK [(3, .int .i64 (((m + t3.sz) : Nat) : Int)), (9, .bool true), (2, .int .i64 0), (1, .pointer (some ⟨b1, 0, none⟩)), (0, .agg #[.int .i64 e.op, .int .i64 e.num, Str e.nm, .slice e.A e.ks.length e.c]), (4, .int .i64 ((i : Nat) : Int))] ⟨rfl, rfl, rfl, rfl, rfl, rfl, trivial⟩ fun a hK => ?_
  refine region_go (lst := [0, 1, 2]) (by kernel_rfl) ?_
  refine stepM hK 10 4 (by kernel_rfl) (.inl rfl) rfl fun a hK => ?_
  refine stepP hK 11 (.int .i64 (((i + 1) : Nat) : Int)) (by kernel_rfl) (run_addN (i := i) (j := 1) rfl rfl rfl (by omega)) fun a hK => ?_
  refine stepM hK 4 11 (by kernel_rfl) (.inr rfl) rfl fun a hK => ?_
  refine region_done hK [(4, .int .i64 (((i + 1) : Nat) : Int)), (3, .int .i64 (((m + t3.sz) : Nat) : Int)), (9, .bool true), (2, .int .i64 0), (1, .pointer (some ⟨b1, 0, none⟩)), (0, .agg #[.int .i64 e.op, .int .i64 e.num, Str e.nm, .slice e.A e.ks.length e.c])] ⟨rfl, rfl, rfl, rfl, rfl, rfl, trivial⟩ fun a hK => ?_
  have hRn : (i + 1) ≤ e.ks.length ∧ ((m + t3.sz)) = exsSz (e.ks.take (i + 1)) + 1 := ⟨by omega, by rw [exsSz_take ht3]; omega⟩
  have hmn : e.ks.length - (i + 1) < e.ks.length - i := by omega
  exact ⟨(i + 1, (m + t3.sz)), hK.sub ⟨rfl, rfl, rfl, rfl, rfl, trivial⟩, hM, hRn, hmn⟩
 ·refine stepP hK 9 (.bool false) (by kernel_rfl) (okBool (b := (decide ((((i : Nat) : Int) : Int) < ((e.ks.length : Nat) : Int)))) (by kernel_rfl) (decide_eq_false h2)) fun a hK => ?_
  refine region_done hK [(9, .bool false), (2, .int .i64 0), (1, .pointer (some ⟨b1, 0, none⟩)), (0, .agg #[.int .i64 e.op, .int .i64 e.num, Str e.nm, .slice e.A e.ks.length e.c]), (4, .int .i64 ((i : Nat) : Int)), (3, .int .i64 ((m : Nat) : Int))] ⟨rfl, rfl, rfl, rfl, rfl, rfl, trivial⟩ fun a hK => ?_
  refine wp_cond_false (hK.get rfl) ?_
  refine wp_exit (exit_then (exit_then (exit_here 0 ?_)))
  refine wp_seq ?_
  refine region_go (lst := [0, 1]) (by kernel_rfl) ?_
  refine stepM hK 20 3 (by kernel_rfl) (.inl rfl) rfl fun a hK => ?_
  refine stepM hK 2 20 (by kernel_rfl) (.inr rfl) rfl fun a hK => ?_
  refine region_done hK [(2, .int .i64 ((m : Nat) : Int)), (9, .bool false), (1, .pointer (some ⟨b1, 0, none⟩)), (0, .agg #[.int .i64 e.op, .int .i64 e.num, Str e.nm, .slice e.A e.ks.length e.c]), (4, .int .i64 ((i : Nat) : Int)), (3, .int .i64 ((m : Nat) : Int))] ⟨rfl, rfl, rfl, rfl, rfl, rfl, trivial⟩ fun a hK => ?_
  refine wp_ret ?_
  exact ret_t hK rfl (u := (.int .i64 ((m : Nat) : Int))) rfl (⟨by rw [sz_eq, hR.2, List.take_of_length_le (by omega)], hM.below⟩)
set_option maxRecDepth 100000 in
set_option maxHeartbeats 4000000 in
theorem ref_deep (e : Ex) : ∀ (w0 : World), ExAt w0 e → e.sz ≤ 1000000 → Calls Tryd.prog 42 #[.agg #[.int .i64 e.op, .int .i64 e.num, Str e.nm, .slice e.A e.ks.length e.c]] w0 (Ret w0 (.int .i64 ((e.dp : Nat) : Int))) := by
 induction e using Ex.rec_on
 rename_i e ih
 intro w0 he hsz
 have hln := exsSz_len e.ks; have hse := sz_eq e
 refine calls_K (args := [.agg #[.int .i64 e.op, .int .i64 e.num, Str e.nm, .slice e.A e.ks.length e.c]]) (n := 22) (env := [(0, .agg #[.int .i64 e.op, .int .i64 e.num, Str e.nm, .slice e.A e.ks.length e.c])]) Tryd.func42 rfl rfl rfl ⟨rfl, trivial⟩ fun a w hK hM => ?_
 refine wp_seq ?_
 refine region_go (lst := [0, 1]) (by kernel_rfl) ?_
 refine stepAlloc hK hM 1 36 [.int .i64 e.op, .int .i64 e.num, Str e.nm, .slice e.A e.ks.length e.c] (fun b => .pointer (some ⟨b, 0, none⟩)) (by kernel_rfl) (by kernel_rfl) fun b1 a w hK hM => ?_
 refine stepP hK 2 (.int .i64 0) (by kernel_rfl) (by kernel_rfl) fun a hK => ?_
 refine region_done hK [(2, .int .i64 0), (1, .pointer (some ⟨b1, 0, none⟩)), (0, .agg #[.int .i64 e.op, .int .i64 e.num, Str e.nm, .slice e.A e.ks.length e.c])] ⟨rfl, rfl, rfl, trivial⟩ fun a hK => ?_
 refine wp_seq ?_
 refine region_go (lst := [0]) (by kernel_rfl) ?_
 refine stepP hK 3 (.int .i64 0) (by kernel_rfl) (by kernel_rfl) fun a hK => ?_
 refine region_done hK [(3, .int .i64 0), (2, .int .i64 0), (1, .pointer (some ⟨b1, 0, none⟩)), (0, .agg #[.int .i64 e.op, .int .i64 e.num, Str e.nm, .slice e.A e.ks.length e.c])] ⟨rfl, rfl, rfl, rfl, trivial⟩ fun a hK => ?_
 refine wp_seq ?_
 refine wp_seq ?_
 refine region_go (lst := [0]) (by kernel_rfl) ?_
 refine stepP hK 4 (.int .i64 0) (by kernel_rfl) (by kernel_rfl) fun a hK => ?_
 refine region_done hK [(4, .int .i64 0), (3, .int .i64 0), (2, .int .i64 0), (1, .pointer (some ⟨b1, 0, none⟩)), (0, .agg #[.int .i64 e.op, .int .i64 e.num, Str e.nm, .slice e.A e.ks.length e.c])] ⟨rfl, rfl, rfl, rfl, rfl, trivial⟩ fun a hK => ?_
 refine wp_block ?_
 refine wp_loopX (fun x : Nat × Nat => [(2, .int .i64 0), (1, .pointer (some ⟨b1, 0, none⟩)), (0, .agg #[.int .i64 e.op, .int .i64 e.num, Str e.nm, .slice e.A e.ks.length e.c]), (4, .int .i64 ((x.1 : Nat) : Int)), (3, .int .i64 ((x.2 : Nat) : Int))]) (fun x : Nat × Nat => [.row b1 36 [.int .i64 e.op, .int .i64 e.num, Str e.nm, .slice e.A e.ks.length e.c]]) (fun x : Nat × Nat => x.1 ≤ e.ks.length ∧ x.2 = exsDp (e.ks.take x.1)) (fun x : Nat × Nat => e.ks.length - x.1) (0, 0) (hK.sub ⟨rfl, rfl, rfl, rfl, rfl, trivial⟩) hM ⟨Nat.zero_le _, rfl⟩ ?_
 rintro ⟨i, m⟩ a w hK hM hR
 replace hK : Knows a 22 [(2, .int .i64 0), (1, .pointer (some ⟨b1, 0, none⟩)), (0, .agg #[.int .i64 e.op, .int .i64 e.num, Str e.nm, .slice e.A e.ks.length e.c]), (4, .int .i64 ((i : Nat) : Int)), (3, .int .i64 ((m : Nat) : Int))] := hK
 replace hM : Mem w0 w [.row b1 36 [.int .i64 e.op, .int .i64 e.num, Str e.nm, .slice e.A e.ks.length e.c]] := hM
 replace hR : i ≤ e.ks.length ∧ m = exsDp (e.ks.take i) := hR
 refine wp_seq ?_
 refine wp_seq ?_
 refine region_go (lst := [0, 1, 2, 3, 4]) (by kernel_rfl) ?_
 refine stepM hK 5 4 (by kernel_rfl) (.inl rfl) rfl fun a hK => ?_
 refine stepP hK 6 (.pointer (some ⟨b1, 3, none⟩)) (by kernel_rfl) (by kernel_rfl) fun a hK => ?_
 refine stepLoad hK 7 (.slice e.A e.ks.length e.c) (by kernel_rfl) rfl rfl ((hM.row 0 rfl).cells 3 1) (by kernel_rfl) fun a hK => ?_
 refine stepP hK 8 (.int .i64 ((e.ks.length : Nat) : Int)) (by kernel_rfl) (by kernel_rfl) fun a hK => ?_
 by_cases h2 : (((i : Nat) : Int) : Int) < ((e.ks.length : Nat) : Int)
 ·refine stepP hK 9 (.bool true) (by kernel_rfl) (okBool (b := (decide ((((i : Nat) : Int) : Int) < ((e.ks.length : Nat) : Int)))) (by kernel_rfl) (decide_eq_true h2)) fun a hK => ?_
  refine region_done hK [(9, .bool true), (2, .int .i64 0), (1, .pointer (some ⟨b1, 0, none⟩)), (0, .agg #[.int .i64 e.op, .int .i64 e.num, Str e.nm, .slice e.A e.ks.length e.c]), (4, .int .i64 ((i : Nat) : Int)), (3, .int .i64 ((m : Nat) : Int))] ⟨rfl, rfl, rfl, rfl, rfl, rfl, trivial⟩ fun a hK => ?_
  refine wp_cond_true (hK.get rfl) ?_
  refine wp_skip ?_
  refine wp_seq ?_
  refine wp_block ?_
  refine region_go (lst := [0, 1, 2, 3, 4, 5, 6, 7, 8]) (by kernel_rfl) ?_
  refine stepM hK 12 3 (by kernel_rfl) (.inl rfl) rfl fun a hK => ?_
  refine stepP hK 13 (.pointer (some ⟨b1, 3, none⟩)) (by kernel_rfl) (by kernel_rfl) fun a hK => ?_
  refine stepLoad hK 14 (.slice e.A e.ks.length e.c) (by kernel_rfl) rfl rfl ((hM.row 0 rfl).cells 3 1) (by kernel_rfl) fun a hK => ?_
  refine stepM hK 15 4 (by kernel_rfl) (.inl rfl) rfl fun a hK => ?_
  obtain ⟨t3, ht3⟩ : ∃ t, e.ks[(i : Nat)]? = some t := ⟨_, List.getElem?_eq_getElem (by omega)⟩
  obtain ⟨⟨at3, At3, ct3⟩, et3⟩ := he.kids _ _ ht3; have nt3 := et3.len
  refine stepP hK 16 (.pointer (some (at3.add (i * 4)))) (by kernel_rfl) (run_ixA (k := i) (s := 4) rfl rfl At3 rfl Tryd.underlying27 (by kernel_rfl) (by omega)) fun a hK => ?_
  refine stepLoad hK 17 (.agg #[.int .i64 t3.op, .int .i64 t3.num, Str t3.nm, .slice t3.A t3.ks.length t3.c]) (by kernel_rfl) rfl rfl ((ct3.on hM.below)) (by kernel_rfl) fun a hK => ?_
  refine stepRet hK hM 18 #[.agg #[.int .i64 t3.op, .int .i64 t3.num, Str t3.nm, .slice t3.A t3.ks.length t3.c]] (.int .i64 ((t3.dp : Nat) : Int)) (by kernel_rfl) (run_callE en_cantileverref03_deep rfl rfl (by kernel_rfl)) (ih t3 (List.mem_of_getElem? ht3) _ (et3.on hM.below) (by have h1 := exsSz_mem (List.mem_of_getElem? ht3); have h2 := sz_eq e; omega)) fun a w hK hM => ?_
  refine stepP hK 19 (.int .i64 (((max m t3.dp) : Nat) : Int)) (by kernel_rfl) (okVal (run_maxI rfl rfl rfl) (congrArg (Value.int .i64) (by omega))) fun a hK => ?_
  refine stepM hK 3 19 (by kernel_rfl) (.inr rfl) rfl fun a hK => ?_
  refine region_done hK [(3, .int .i64 (((max m t3.dp) : Nat) : Int)), (9, .bool true), (2, .int .i64 0), (1, .pointer (some ⟨b1, 0, none⟩)), (0, .agg #[.int .i64 e.op, .int .i64 e.num, Str e.nm, .slice e.A e.ks.length e.c]), (4, .int .i64 ((i : Nat) : Int))] ⟨rfl, rfl, rfl, rfl, rfl, rfl, trivial⟩ fun a hK => ?_
  refine region_go (lst := [0, 1, 2]) (by kernel_rfl) ?_
  refine stepM hK 10 4 (by kernel_rfl) (.inl rfl) rfl fun a hK => ?_
  refine stepP hK 11 (.int .i64 (((i + 1) : Nat) : Int)) (by kernel_rfl) (run_addN (i := i) (j := 1) rfl rfl rfl (by omega)) fun a hK => ?_
  refine stepM hK 4 11 (by kernel_rfl) (.inr rfl) rfl fun a hK => ?_
  refine region_done hK [(4, .int .i64 (((i + 1) : Nat) : Int)), (3, .int .i64 (((max m t3.dp) : Nat) : Int)), (9, .bool true), (2, .int .i64 0), (1, .pointer (some ⟨b1, 0, none⟩)), (0, .agg #[.int .i64 e.op, .int .i64 e.num, Str e.nm, .slice e.A e.ks.length e.c])] ⟨rfl, rfl, rfl, rfl, rfl, rfl, trivial⟩ fun a hK => ?_
  have hRn : (i + 1) ≤ e.ks.length ∧ ((max m t3.dp)) = exsDp (e.ks.take (i + 1)) := ⟨by omega, by rw [exsDp_take ht3, hR.2]⟩
  have hmn : e.ks.length - (i + 1) < e.ks.length - i := by omega
  exact ⟨(i + 1, (max m t3.dp)), hK.sub ⟨rfl, rfl, rfl, rfl, rfl, trivial⟩, hM, hRn, hmn⟩
 ·refine stepP hK 9 (.bool false) (by kernel_rfl) (okBool (b := (decide ((((i : Nat) : Int) : Int) < ((e.ks.length : Nat) : Int)))) (by kernel_rfl) (decide_eq_false h2)) fun a hK => ?_
  refine region_done hK [(9, .bool false), (2, .int .i64 0), (1, .pointer (some ⟨b1, 0, none⟩)), (0, .agg #[.int .i64 e.op, .int .i64 e.num, Str e.nm, .slice e.A e.ks.length e.c]), (4, .int .i64 ((i : Nat) : Int)), (3, .int .i64 ((m : Nat) : Int))] ⟨rfl, rfl, rfl, rfl, rfl, rfl, trivial⟩ fun a hK => ?_
  refine wp_cond_false (hK.get rfl) ?_
  refine wp_exit (exit_then (exit_then (exit_here 0 ?_)))
  refine wp_seq ?_
  refine region_go (lst := [0, 1, 2]) (by kernel_rfl) ?_
  refine stepM hK 20 3 (by kernel_rfl) (.inl rfl) rfl fun a hK => ?_
  refine stepP hK 21 (.int .i64 (((m + 1) : Nat) : Int)) (by kernel_rfl) (run_addN (i := m) (j := 1) rfl rfl rfl (by have h1 := dp_sz e; have h2 := dp_eq e; have h3 : m = exsDp e.ks := (by rw [hR.2, List.take_of_length_le (by omega)]); omega)) fun a hK => ?_
  refine stepM hK 2 21 (by kernel_rfl) (.inr rfl) rfl fun a hK => ?_
  refine region_done hK [(2, .int .i64 (((m + 1) : Nat) : Int)), (9, .bool false), (1, .pointer (some ⟨b1, 0, none⟩)), (0, .agg #[.int .i64 e.op, .int .i64 e.num, Str e.nm, .slice e.A e.ks.length e.c]), (4, .int .i64 ((i : Nat) : Int)), (3, .int .i64 ((m : Nat) : Int))] ⟨rfl, rfl, rfl, rfl, rfl, rfl, trivial⟩ fun a hK => ?_
  refine wp_ret ?_
  exact ret_t hK rfl (u := (.int .i64 (((m + 1) : Nat) : Int))) rfl (⟨by rw [dp_eq, hR.2, List.take_of_length_le (by omega)], hM.below⟩)
set_option maxRecDepth 100000 in
set_option maxHeartbeats 4000000 in
theorem ref_sizes (l : List Sm) : ∀ (A : Option Addr) (c : Nat) (w0 : World), SmsAt w0 A l → smsSz l ≤ 1000000 → Calls Tryd.prog 45 #[.slice A l.length c] w0 (Ret w0 (.int .i64 ((smsSz l : Nat) : Int))) := by
 induction l using sms_rec
 rename_i l ih
 intro A c w0 hl hsz
 have hln := smsSz_len l
 refine calls_K (args := [.slice A l.length c]) (n := 50) (env := [(0, .slice A l.length c)]) Tryd.func45 rfl rfl rfl ⟨rfl, trivial⟩ fun a w hK hM => ?_
 refine wp_seq ?_
 refine region_go (lst := [0]) (by kernel_rfl) ?_
 refine stepP hK 2 (.int .i64 0) (by kernel_rfl) (by kernel_rfl) fun a hK => ?_
 refine region_done hK [(2, .int .i64 0), (0, .slice A l.length c)] ⟨rfl, rfl, trivial⟩ fun a hK => ?_
 refine wp_seq ?_
 refine region_go (lst := [0]) (by kernel_rfl) ?_
 refine stepP hK 3 (.int .i64 0) (by kernel_rfl) (by kernel_rfl) fun a hK => ?_
 refine region_done hK [(3, .int .i64 0), (2, .int .i64 0), (0, .slice A l.length c)] ⟨rfl, rfl, rfl, trivial⟩ fun a hK => ?_
 refine wp_seq ?_
 refine wp_seq ?_
 refine region_go (lst := [0]) (by kernel_rfl) ?_
 refine stepP hK 4 (.int .i64 0) (by kernel_rfl) (by kernel_rfl) fun a hK => ?_
 refine region_done hK [(4, .int .i64 0), (3, .int .i64 0), (2, .int .i64 0), (0, .slice A l.length c)] ⟨rfl, rfl, rfl, rfl, trivial⟩ fun a hK => ?_
 refine wp_block ?_
 refine wp_loopX (fun x : Nat × Nat => [(2, .int .i64 0), (0, .slice A l.length c), (4, .int .i64 ((x.1 : Nat) : Int)), (3, .int .i64 ((x.2 : Nat) : Int))]) (fun x : Nat × Nat => []) (fun x : Nat × Nat => x.1 ≤ l.length ∧ x.2 = smsSz (l.take x.1)) (fun x : Nat × Nat => l.length - x.1) (0, 0) (hK.sub ⟨rfl, rfl, rfl, rfl, trivial⟩) hM ⟨Nat.zero_le _, rfl⟩ ?_
 rintro ⟨i, m⟩ a w hK hM hR
 replace hK : Knows a 50 [(2, .int .i64 0), (0, .slice A l.length c), (4, .int .i64 ((i : Nat) : Int)), (3, .int .i64 ((m : Nat) : Int))] := hK
 replace hM : Mem w0 w [] := hM
 replace hR : i ≤ l.length ∧ m = smsSz (l.take i) := hR
 refine wp_seq ?_
 refine wp_seq ?_
 refine region_go (lst := [0, 1, 2, 3]) (by kernel_rfl) ?_
 refine stepM hK 6 4 (by kernel_rfl) (.inl rfl) rfl fun a hK => ?_
 refine stepM hK 7 0 (by kernel_rfl) (.inl rfl) rfl fun a hK => ?_
 refine stepP hK 8 (.int .i64 ((l.length : Nat) : Int)) (by kernel_rfl) (by kernel_rfl) fun a hK => ?_
 by_cases h1 : (((i : Nat) : Int) : Int) < ((l.length : Nat) : Int)
 ·refine stepP hK 9 (.bool true) (by kernel_rfl) (okBool (b := (decide ((((i : Nat) : Int) : Int) < ((l.length : Nat) : Int)))) (by kernel_rfl) (decide_eq_true h1)) fun a hK => ?_
  refine region_done hK [(9, .bool true), (2, .int .i64 0), (0, .slice A l.length c), (4, .int .i64 ((i : Nat) : Int)), (3, .int .i64 ((m : Nat) : Int))] ⟨rfl, rfl, rfl, rfl, rfl, trivial⟩ fun a hK => ?_
  refine wp_cond_true (hK.get rfl) ?_
  refine wp_skip ?_
  refine wp_seq ?_
  refine wp_block ?_
  refine wp_seq ?_
  obtain ⟨t2, ht2⟩ : ∃ t, l[(i : Nat)]? = some t := ⟨_, List.getElem?_eq_getElem (by omega)⟩
  obtain ⟨⟨at2, At2, ct2⟩, et2⟩ := hl _ _ ht2; have nt2 := et2.len
  refine region_made (F := fun w => Mem w0 w []) hK hM [.val (.int .i64 ((m : Nat) : Int)), .val (.int .i64 (((m + 1) : Nat) : Int)), .val (.slice A l.length c), .val (.int .i64 ((i : Nat) : Int)), .val (.pointer (some (at2.add (i * 7)))), .val (.pointer (some ((at2.add (i * 7)).add 5))), .val (.slice t2.A2 t2.th.length t2.c2), .val (.int .i64 (((smsSz t2.th) : Nat) : Int)), .val (.int .i64 ((((m + 1) + (smsSz t2.th)) : Nat) : Int)), .val (.slice A l.length c), .val (.int .i64 ((i : Nat) : Int)), .val (.pointer (some (at2.add (i * 7)))), .val (.pointer (some ((at2.add (i * 7)).add 6))), .val (.slice t2.A3 t2.el.length t2.c3), .val (.int .i64 (((smsSz t2.el) : Nat) : Int)), .val (.int .i64 (((((m + 1) + (smsSz t2.th)) + (smsSz t2.el)) : Nat) : Int)), .val (.int .i64 (((((m + 1) + (smsSz t2.th)) + (smsSz t2.el)) : Nat) : Int))] 17 (fun _ h => h) (by kernel_rfl) (by kernel_rfl) ⟨⟨⟨⟨⟨⟨⟨⟨⟨⟨⟨⟨⟨⟨⟨⟨⟨trivial, ?_⟩, ?_⟩, ?_⟩, ?_⟩, ?_⟩, ?_⟩, ?_⟩, ?_⟩, ?_⟩, ?_⟩, ?_⟩, ?_⟩, ?_⟩, ?_⟩, ?_⟩, ?_⟩, ?_⟩ (fun β => [(3, .int .i64 (((((m + 1) + (smsSz t2.th)) + (smsSz t2.el)) : Nat) : Int)), (9, .bool true), (2, .int .i64 0), (0, .slice A l.length c), (4, .int .i64 ((i : Nat) : Int))]) (fun β => by kernel_rfl) ?_
  ·exact .val (.int .i64 ((m : Nat) : Int)) rfl (fun β => by kernel_rfl) (fun β w hM => (by kernel_rfl))
  ·exact .val (.int .i64 (((m + 1) : Nat) : Int)) rfl (fun β => by kernel_rfl) (fun β w hM => (run_addN (i := m) (j := 1) rfl rfl rfl (by have h2 := smsSz_le (l := l) (i := i); omega)))
  ·exact .val (.slice A l.length c) rfl (fun β => by kernel_rfl) (fun β w hM => (by kernel_rfl))
  ·exact .val (.int .i64 ((i : Nat) : Int)) rfl (fun β => by kernel_rfl) (fun β w hM => (by kernel_rfl))
  ·exact .val (.pointer (some (at2.add (i * 7)))) rfl (fun β => by kernel_rfl) (fun β w hM => (run_ixA (k := i) (s := 7) rfl rfl At2 rfl Tryd.underlying28 (by kernel_rfl) (by omega)))
  ·exact .val (.pointer (some ((at2.add (i * 7)).add 5))) rfl (fun β => by kernel_rfl) (fun β w hM => (by kernel_rfl))
  ·exact .val (.slice t2.A2 t2.th.length t2.c2) rfl (fun β => by kernel_rfl) (fun β w hM => run_loadE rfl rfl (((ct2.on hM.below)).addA 5 1 (by decide)) (by kernel_rfl))
  ·exact .call _ #[.slice t2.A2 t2.th.length t2.c2] (.int .i64 (((smsSz t2.th) : Nat) : Int)) rfl (fun β => by kernel_rfl) (fun β w => (run_callE en_cantileverref03_sizes rfl rfl (by kernel_rfl))) (fun w hM => (ih t2 (List.mem_of_getElem? ht2)).1 _ _ _ (et2.thn.on hM.below) (by have h1 := smsSz_mem (List.mem_of_getElem? ht2); have h2 := sm_sz t2; omega))
  ·exact .val (.int .i64 ((((m + 1) + (smsSz t2.th)) : Nat) : Int)) rfl (fun β => by kernel_rfl) (fun β w hM => (run_addN (i := (m + 1)) (j := (smsSz t2.th)) rfl rfl rfl (by have h1 := smsSz_take ht2; have h2 := smsSz_le (l := l) (i := i + 1); have h3 := sm_sz t2; omega)))
  ·exact .val (.slice A l.length c) rfl (fun β => by kernel_rfl) (fun β w hM => (by kernel_rfl))
  ·exact .val (.int .i64 ((i : Nat) : Int)) rfl (fun β => by kernel_rfl) (fun β w hM => (by kernel_rfl))
  ·exact .val (.pointer (some (at2.add (i * 7)))) rfl (fun β => by kernel_rfl) (fun β w hM => (run_ixA (k := i) (s := 7) rfl rfl At2 rfl Tryd.underlying28 (by kernel_rfl) (by omega)))
  ·exact .val (.pointer (some ((at2.add (i * 7)).add 6))) rfl (fun β => by kernel_rfl) (fun β w hM => (by kernel_rfl))
  ·exact .val (.slice t2.A3 t2.el.length t2.c3) rfl (fun β => by kernel_rfl) (fun β w hM => run_loadE rfl rfl (((ct2.on hM.below)).addA 6 1 (by decide)) (by kernel_rfl))
  ·exact .call _ #[.slice t2.A3 t2.el.length t2.c3] (.int .i64 (((smsSz t2.el) : Nat) : Int)) rfl (fun β => by kernel_rfl) (fun β w => (run_callE en_cantileverref03_sizes rfl rfl (by kernel_rfl))) (fun w hM => (ih t2 (List.mem_of_getElem? ht2)).2 _ _ _ (et2.els.on hM.below) (by have h1 := smsSz_mem (List.mem_of_getElem? ht2); have h2 := sm_sz t2; omega))
  ·exact .val (.int .i64 (((((m + 1) + (smsSz t2.th)) + (smsSz t2.el)) : Nat) : Int)) rfl (fun β => by kernel_rfl) (fun β w hM => (run_addN (i := ((m + 1) + (smsSz t2.th))) (j := (smsSz t2.el)) rfl rfl rfl (by have h1 := smsSz_take ht2; have h2 := smsSz_le (l := l) (i := i + 1); have h3 := sm_sz t2; omega)))
  ·exact .val (.int .i64 (((((m + 1) + (smsSz t2.th)) + (smsSz t2.el)) : Nat) : Int)) rfl (fun β => by kernel_rfl) (fun β w hM => (by kernel_rfl))
  intro β3 a w hK hM
  have hK2 := hK; have hM2 := hM; clear hK hM
  have hK : Knows a 50 [(3, .int .i64 (((((m + 1) + (smsSz t2.th)) + (smsSz t2.el)) : Nat) : Int)), (9, .bool true), (2, .int .i64 0), (0, .slice A l.length c), (4, .int .i64 ((i : Nat) : Int))] := hK2
  have hM := hM2.to [] (by kernel_rfl)
  clear hK2 hM2
  refine wp_seq ?_
  refine region_go (lst := [0]) (by kernel_rfl) ?_
  refine stepP hK 5 (.int .i64 0) (by kernel_rfl) (by kernel_rfl) fun a hK => ?_
  refine region_done hK [(5, .int .i64 0), (3, .int .i64 (((((m + 1) + (smsSz t2.th)) + (smsSz t2.el)) : Nat) : Int)), (9, .bool true), (2, .int .i64 0), (0, .slice A l.length c), (4, .int .i64 ((i : Nat) : Int))] ⟨rfl, rfl, rfl, rfl, rfl, rfl, trivial⟩ fun a hK => ?_
  refine wp_block ?_
  have hRo := hR
  have hes := exsSz_len t2.es; have h1 := smsSz_take ht2; have h2 := smsSz_le (l := l) (i := i + 1); have h3 := sm_sz t2
  refine wp_loopX (fun x : Nat × Nat => [(9, .bool true), (2, .int .i64 0), (0, .slice A l.length c), (4, .int .i64 ((i : Nat) : Int)), (5, .int .i64 ((x.1 : Nat) : Int)), (3, .int .i64 ((x.2 : Nat) : Int))]) (fun x : Nat × Nat => []) (fun x : Nat × Nat => x.1 ≤ t2.es.length ∧ x.2 = (((m + 1) + (smsSz t2.th)) + (smsSz t2.el)) + exsSz (t2.es.take x.1)) (fun x : Nat × Nat => t2.es.length - x.1) (0, (((m + 1) + (smsSz t2.th)) + (smsSz t2.el))) (hK.sub ⟨rfl, rfl, rfl, rfl, rfl, rfl, trivial⟩) hM ⟨Nat.zero_le _, rfl⟩ ?_
  rintro ⟨k, m2⟩ a w hK hM hR
  replace hK : Knows a 50 [(9, .bool true), (2, .int .i64 0), (0, .slice A l.length c), (4, .int .i64 ((i : Nat) : Int)), (5, .int .i64 ((k : Nat) : Int)), (3, .int .i64 ((m2 : Nat) : Int))] := hK
  replace hM : Mem w0 w [] := hM
  replace hR : k ≤ t2.es.length ∧ m2 = (((m + 1) + (smsSz t2.th)) + (smsSz t2.el)) + exsSz (t2.es.take k) := hR
  refine wp_seq ?_
  refine wp_seq ?_
  refine region_go (lst := [0, 1, 2, 3, 4, 5, 6, 7]) (by kernel_rfl) ?_
  refine stepM hK 28 5 (by kernel_rfl) (.inl rfl) rfl fun a hK => ?_
  refine stepM hK 29 0 (by kernel_rfl) (.inl rfl) rfl fun a hK => ?_
  refine stepM hK 30 4 (by kernel_rfl) (.inl rfl) rfl fun a hK => ?_
  refine stepP hK 31 (.pointer (some (at2.add (i * 7)))) (by kernel_rfl) (run_ixA (k := i) (s := 7) rfl rfl At2 rfl Tryd.underlying28 (by kernel_rfl) (by omega)) fun a hK => ?_
  refine stepP hK 32 (.pointer (some ((at2.add (i * 7)).add 4))) (by kernel_rfl) (by kernel_rfl) fun a hK => ?_
  refine stepLoad hK 33 (.slice t2.A1 t2.es.length t2.c1) (by kernel_rfl) rfl rfl (((ct2.on hM.below)).addA 4 1 (by decide)) (by kernel_rfl) fun a hK => ?_
  refine stepP hK 34 (.int .i64 ((t2.es.length : Nat) : Int)) (by kernel_rfl) (by kernel_rfl) fun a hK => ?_
  by_cases h4 : (((k : Nat) : Int) : Int) < ((t2.es.length : Nat) : Int)
  ·refine stepP hK 35 (.bool true) (by kernel_rfl) (okBool (b := (decide ((((k : Nat) : Int) : Int) < ((t2.es.length : Nat) : Int)))) (by kernel_rfl) (decide_eq_true h4)) fun a hK => ?_
   refine region_done hK [(35, .bool true), (9, .bool true), (2, .int .i64 0), (0, .slice A l.length c), (4, .int .i64 ((i : Nat) : Int)), (5, .int .i64 ((k : Nat) : Int)), (3, .int .i64 ((m2 : Nat) : Int))] ⟨rfl, rfl, rfl, rfl, rfl, rfl, rfl, trivial⟩ fun a hK => ?_
   refine wp_cond_true (hK.get rfl) ?_
   refine wp_skip ?_
   refine wp_seq ?_
   refine wp_block ?_
   refine region_go (lst := [0, 1, 2, 3, 4, 5, 6, 7, 8, 9, 10, 11]) (by kernel_rfl) ?_
   refine stepM hK 38 3 (by kernel_rfl) (.inl rfl) rfl fun a hK => ?_
   refine stepM hK 39 0 (by kernel_rfl) (.inl rfl) rfl fun a hK => ?_
   refine stepM hK 40 4 (by kernel_rfl) (.inl rfl) rfl fun a hK => ?_
   refine stepP hK 41 (.pointer (some (at2.add (i * 7)))) (by kernel_rfl) (run_ixA (k := i) (s := 7) rfl rfl At2 rfl Tryd.underlying28 (by kernel_rfl) (by omega)) fun a hK => ?_
   refine stepP hK 42 (.pointer (some ((at2.add (i * 7)).add 4))) (by kernel_rfl) (by kernel_rfl) fun a hK => ?_
   refine stepLoad hK 43 (.slice t2.A1 t2.es.length t2.c1) (by kernel_rfl) rfl rfl (((ct2.on hM.below)).addA 4 1 (by decide)) (by kernel_rfl) fun a hK => ?_
   refine stepM hK 44 5 (by kernel_rfl) (.inl rfl) rfl fun a hK => ?_
   obtain ⟨t5, ht5⟩ : ∃ t, t2.es[(k : Nat)]? = some t := ⟨_, List.getElem?_eq_getElem (by omega)⟩
   obtain ⟨⟨at5, At5, ct5⟩, et5⟩ := et2.exprs _ _ ht5; have nt5 := et5.len
   refine stepP hK 45 (.pointer (some (at5.add (k * 4)))) (by kernel_rfl) (run_ixA (k := k) (s := 4) rfl rfl At5 rfl Tryd.underlying27 (by kernel_rfl) (by omega)) fun a hK => ?_
   refine stepLoad hK 46 (.agg #[.int .i64 t5.op, .int .i64 t5.num, Str t5.nm, .slice t5.A t5.ks.length t5.c]) (by kernel_rfl) rfl rfl ((ct5.on hM.below)) (by kernel_rfl) fun a hK => ?_
   refine stepRet hK hM 47 #[.agg #[.int .i64 t5.op, .int .i64 t5.num, Str t5.nm, .slice t5.A t5.ks.length t5.c]] (.int .i64 ((t5.sz : Nat) : Int)) (by kernel_rfl) (run_callE en_cantileverref03_size rfl rfl (by kernel_rfl)) (ref_size t5 _ (et5.on hM.below) (by have h1 := exsSz_mem (List.mem_of_getElem? ht5); have h2 := sm_sz t2; have h3 := smsSz_mem (List.mem_of_getElem? ht2); omega)) fun a w hK hM => ?_
   refine stepP hK 48 (.int .i64 (((m2 + t5.sz) : Nat) : Int)) (by kernel_rfl) (run_addN (i := m2) (j := t5.sz) rfl rfl rfl (by have h4 := exsSz_take ht5; have h5 := exsSz_le (l := t2.es) (i := k + 1); have h1 := smsSz_take ht2; have h2 := smsSz_le (l := l) (i := i + 1); have h3 := sm_sz t2; omega)) fun a hK => ?_
   refine stepM hK 3 48 (by kernel_rfl) (.inr rfl) rfl fun a hK => ?_
   refine region_done hK [(3, .int .i64 (((m2 + t5.sz) : Nat) : Int)), (35, .bool true), (9, .bool true), (2, .int .i64 0), (0, .slice A l.length c), (4, .int .i64 ((i : Nat) : Int)), (5, .int .i64 ((k : Nat) : Int))] ⟨rfl, rfl, rfl, rfl, rfl, rfl, rfl, trivial⟩ fun a hK => ?_
   refine region_go (lst := [0, 1, 2]) (by kernel_rfl) ?_
   refine stepM hK 36 5 (by kernel_rfl) (.inl rfl) rfl fun a hK => ?_
   refine stepP hK 37 (.int .i64 (((k + 1) : Nat) : Int)) (by kernel_rfl) (run_addN (i := k) (j := 1) rfl rfl rfl (by omega)) fun a hK => ?_
   refine stepM hK 5 37 (by kernel_rfl) (.inr rfl) rfl fun a hK => ?_
   refine region_done hK [(5, .int .i64 (((k + 1) : Nat) : Int)), (3, .int .i64 (((m2 + t5.sz) : Nat) : Int)), (35, .bool true), (9, .bool true), (2, .int .i64 0), (0, .slice A l.length c), (4, .int .i64 ((i : Nat) : Int))] ⟨rfl, rfl, rfl, rfl, rfl, rfl, rfl, trivial⟩ fun a hK => ?_
   have hRn : (k + 1) ≤ t2.es.length ∧ ((m2 + t5.sz)) = (((m + 1) + (smsSz t2.th)) + (smsSz t2.el)) + exsSz (t2.es.take (k + 1)) := ⟨by omega, by rw [exsSz_take ht5]; omega⟩
   have hmn : t2.es.length - (k + 1) < t2.es.length - k := by omega
   exact ⟨(k + 1, (m2 + t5.sz)), hK.sub ⟨rfl, rfl, rfl, rfl, rfl, rfl, trivial⟩, hM, hRn, hmn⟩
  ·refine stepP hK 35 (.bool false) (by kernel_rfl) (okBool (b := (decide ((((k : Nat) : Int) : Int) < ((t2.es.length : Nat) : Int)))) (by kernel_rfl) (decide_eq_false h4)) fun a hK => ?_
   refine region_done hK [(35, .bool false), (9, .bool true), (2, .int .i64 0), (0, .slice A l.length c), (4, .int .i64 ((i : Nat) : Int)), (5, .int .i64 ((k : Nat) : Int)), (3, .int .i64 ((m2 : Nat) : Int))] ⟨rfl, rfl, rfl, rfl, rfl, rfl, rfl, trivial⟩ fun a hK => ?_
   refine wp_cond_false (hK.get rfl) ?_
   refine wp_exit (exit_then (exit_then (exit_here 2 ?_)))
   refine region_go (lst := [0, 1, 2]) (by kernel_rfl) ?_
   refine stepM hK 10 4 (by kernel_rfl) (.inl rfl) rfl fun a hK => ?_
   refine stepP hK 11 (.int .i64 (((i + 1) : Nat) : Int)) (by kernel_rfl) (run_addN (i := i) (j := 1) rfl rfl rfl (by omega)) fun a hK => ?_
   refine stepM hK 4 11 (by kernel_rfl) (.inr rfl) rfl fun a hK => ?_
   refine region_done hK [(4, .int .i64 (((i + 1) : Nat) : Int)), (35, .bool false), (9, .bool true), (2, .int .i64 0), (0, .slice A l.length c), (5, .int .i64 ((k : Nat) : Int)), (3, .int .i64 ((m2 : Nat) : Int))] ⟨rfl, rfl, rfl, rfl, rfl, rfl, rfl, trivial⟩ fun a hK => ?_
   have hRn : (i + 1) ≤ l.length ∧ m2 = smsSz (l.take (i + 1)) := ⟨by omega, by have h4 := hR.2; rw [List.take_of_length_le (by omega)] at h4; have h1 := smsSz_take ht2; have h2 := smsSz_le (l := l) (i := i + 1); have h3 := sm_sz t2; omega⟩
   have hmn : l.length - (i + 1) < l.length - i := by omega
   exact ⟨(i + 1, m2), hK.sub ⟨rfl, rfl, rfl, rfl, trivial⟩, hM, hRn, hmn⟩
 ·refine stepP hK 9 (.bool false) (by kernel_rfl) (okBool (b := (decide ((((i : Nat) : Int) : Int) < ((l.length : Nat) : Int)))) (by kernel_rfl) (decide_eq_false h1)) fun a hK => ?_
  refine region_done hK [(9, .bool false), (2, .int .i64 0), (0, .slice A l.length c), (4, .int .i64 ((i : Nat) : Int)), (3, .int .i64 ((m : Nat) : Int))] ⟨rfl, rfl, rfl, rfl, rfl, trivial⟩ fun a hK => ?_
  refine wp_cond_false (hK.get rfl) ?_
  refine wp_exit (exit_then (exit_then (exit_here 0 ?_)))
  refine wp_seq ?_
  refine region_go (lst := [0, 1]) (by kernel_rfl) ?_
  refine stepM hK 49 3 (by kernel_rfl) (.inl rfl) rfl fun a hK => ?_
  refine stepM hK 2 49 (by kernel_rfl) (.inr rfl) rfl fun a hK => ?_
  refine region_done hK [(2, .int .i64 ((m : Nat) : Int)), (9, .bool false), (0, .slice A l.length c), (4, .int .i64 ((i : Nat) : Int)), (3, .int .i64 ((m : Nat) : Int))] ⟨rfl, rfl, rfl, rfl, rfl, trivial⟩ fun a hK => ?_
  refine wp_ret ?_
  exact ret_t hK rfl (u := (.int .i64 ((m : Nat) : Int))) rfl (⟨by rw [hR.2, List.take_of_length_le (by omega)], hM.below⟩)
set_option maxRecDepth 100000 in
set_option maxHeartbeats 4000000 in
theorem ref_deeps (l : List Sm) : ∀ (A : Option Addr) (c : Nat) (w0 : World), SmsAt w0 A l → smsSz l ≤ 1000000 → Calls Tryd.prog 46 #[.slice A l.length c] w0 (Ret w0 (.int .i64 ((smsDp l : Nat) : Int))) := by
 induction l using sms_rec
 rename_i l ih
 intro A c w0 hl hsz
 have hln := smsSz_len l
 refine calls_K (args := [.slice A l.length c]) (n := 52) (env := [(0, .slice A l.length c)]) Tryd.func46 rfl rfl rfl ⟨rfl, trivial⟩ fun a w hK hM => ?_
 refine wp_seq ?_
 refine region_go (lst := [0]) (by kernel_rfl) ?_
 refine stepP hK 2 (.int .i64 0) (by kernel_rfl) (by kernel_rfl) fun a hK => ?_
 refine region_done hK [(2, .int .i64 0), (0, .slice A l.length c)] ⟨rfl, rfl, trivial⟩ fun a hK => ?_
 refine wp_seq ?_
 refine region_go (lst := [0]) (by kernel_rfl) ?_
 refine stepP hK 3 (.int .i64 0) (by kernel_rfl) (by kernel_rfl) fun a hK => ?_
 refine region_done hK [(3, .int .i64 0), (2, .int .i64 0), (0, .slice A l.length c)] ⟨rfl, rfl, rfl, trivial⟩ fun a hK => ?_
 refine wp_seq ?_
 refine wp_seq ?_
 refine region_go (lst := [0]) (by kernel_rfl) ?_
 refine stepP hK 4 (.int .i64 0) (by kernel_rfl) (by kernel_rfl) fun a hK => ?_
 refine region_done hK [(4, .int .i64 0), (3, .int .i64 0), (2, .int .i64 0), (0, .slice A l.length c)] ⟨rfl, rfl, rfl, rfl, trivial⟩ fun a hK => ?_
 refine wp_block ?_
 refine wp_loopX (fun x : Nat × Nat => [(2, .int .i64 0), (0, .slice A l.length c), (4, .int .i64 ((x.1 : Nat) : Int)), (3, .int .i64 ((x.2 : Nat) : Int))]) (fun x : Nat × Nat => []) (fun x : Nat × Nat => x.1 ≤ l.length ∧ x.2 = smsDp (l.take x.1)) (fun x : Nat × Nat => l.length - x.1) (0, 0) (hK.sub ⟨rfl, rfl, rfl, rfl, trivial⟩) hM ⟨Nat.zero_le _, rfl⟩ ?_
 rintro ⟨i, m⟩ a w hK hM hR
 replace hK : Knows a 52 [(2, .int .i64 0), (0, .slice A l.length c), (4, .int .i64 ((i : Nat) : Int)), (3, .int .i64 ((m : Nat) : Int))] := hK
 replace hM : Mem w0 w [] := hM
 replace hR : i ≤ l.length ∧ m = smsDp (l.take i) := hR
 refine wp_seq ?_
 refine wp_seq ?_
 refine region_go (lst := [0, 1, 2, 3]) (by kernel_rfl) ?_
 refine stepM hK 7 4 (by kernel_rfl) (.inl rfl) rfl fun a hK => ?_
 refine stepM hK 8 0 (by kernel_rfl) (.inl rfl) rfl fun a hK => ?_
 refine stepP hK 9 (.int .i64 ((l.length : Nat) : Int)) (by kernel_rfl) (by kernel_rfl) fun a hK => ?_
 by_cases h1 : (((i : Nat) : Int) : Int) < ((l.length : Nat) : Int)
 ·refine stepP hK 10 (.bool true) (by kernel_rfl) (okBool (b := (decide ((((i : Nat) : Int) : Int) < ((l.length : Nat) : Int)))) (by kernel_rfl) (decide_eq_true h1)) fun a hK => ?_
  refine region_done hK [(10, .bool true), (2, .int .i64 0), (0, .slice A l.length c), (4, .int .i64 ((i : Nat) : Int)), (3, .int .i64 ((m : Nat) : Int))] ⟨rfl, rfl, rfl, rfl, rfl, trivial⟩ fun a hK => ?_
  refine wp_cond_true (hK.get rfl) ?_
  refine wp_skip ?_
  refine wp_seq ?_
  refine wp_block ?_
  refine wp_seq ?_
  obtain ⟨t2, ht2⟩ : ∃ t, l[(i : Nat)]? = some t := ⟨_, List.getElem?_eq_getElem (by omega)⟩
  obtain ⟨⟨at2, At2, ct2⟩, et2⟩ := hl _ _ ht2; have nt2 := et2.len
  refine region_any (F := fun w => Mem w0 w []) hK [some (.slice A l.length c), some (.int .i64 ((i : Nat) : Int)), some (.pointer (some (at2.add (i * 7)))), some (.pointer (some ((at2.add (i * 7)).add 5))), some (.slice t2.A2 t2.th.length t2.c2), some (.int .i64 (((smsDp t2.th) : Nat) : Int)), some (.slice A l.length c), some (.int .i64 ((i : Nat) : Int)), some (.pointer (some (at2.add (i * 7)))), some (.pointer (some ((at2.add (i * 7)).add 6))), some (.slice t2.A3 t2.el.length t2.c3), some (.int .i64 (((smsDp t2.el) : Nat) : Int)), some (.int .i64 (((max (smsDp t2.th) (smsDp t2.el)) : Nat) : Int)), some (.int .i64 (((max (smsDp t2.th) (smsDp t2.el)) : Nat) : Int))] 14 (fun _ _ hb hm => hm.go hb) hM (by kernel_rfl) (by kernel_rfl) ⟨⟨⟨⟨⟨⟨⟨⟨⟨⟨⟨⟨⟨⟨trivial, ?_⟩, ?_⟩, ?_⟩, ?_⟩, ?_⟩, ?_⟩, ?_⟩, ?_⟩, ?_⟩, ?_⟩, ?_⟩, ?_⟩, ?_⟩, ?_⟩ [(5, .int .i64 (((max (smsDp t2.th) (smsDp t2.el)) : Nat) : Int)), (10, .bool true), (2, .int .i64 0), (0, .slice A l.length c), (4, .int .i64 ((i : Nat) : Int)), (3, .int .i64 ((m : Nat) : Int))] (by kernel_rfl) fun a w hK hM => ?_
  ·exact .val (.slice A l.length c) rfl (by kernel_rfl) (fun w hM => (by kernel_rfl))
  ·exact .val (.int .i64 ((i : Nat) : Int)) rfl (by kernel_rfl) (fun w hM => (by kernel_rfl))
  ·exact .val (.pointer (some (at2.add (i * 7)))) rfl (by kernel_rfl) (fun w hM => (run_ixA (k := i) (s := 7) rfl rfl At2 rfl Tryd.underlying28 (by kernel_rfl) (by omega)))
  ·exact .val (.pointer (some ((at2.add (i * 7)).add 5))) rfl (by kernel_rfl) (fun w hM => (by kernel_rfl))
  ·exact .val (.slice t2.A2 t2.th.length t2.c2) rfl (by kernel_rfl) (fun w hM => run_loadE rfl rfl (((ct2.on hM.below)).addA 5 1 (by decide)) (by kernel_rfl))
  ·exact .call _ #[.slice t2.A2 t2.th.length t2.c2] (.int .i64 (((smsDp t2.th) : Nat) : Int)) rfl (by kernel_rfl) (fun w => (run_callE en_cantileverref03_deeps rfl rfl (by kernel_rfl))) (fun w hM => (ih t2 (List.mem_of_getElem? ht2)).1 _ _ _ (et2.thn.on hM.below) (by have h1 := smsSz_mem (List.mem_of_getElem? ht2); have h2 := sm_sz t2; omega))
  ·exact .val (.slice A l.length c) rfl (by kernel_rfl) (fun w hM => (by kernel_rfl))
  ·exact .val (.int .i64 ((i : Nat) : Int)) rfl (by kernel_rfl) (fun w hM => (by kernel_rfl))
  ·exact .val (.pointer (some (at2.add (i * 7)))) rfl (by kernel_rfl) (fun w hM => (run_ixA (k := i) (s := 7) rfl rfl At2 rfl Tryd.underlying28 (by kernel_rfl) (by omega)))
  ·exact .val (.pointer (some ((at2.add (i * 7)).add 6))) rfl (by kernel_rfl) (fun w hM => (by kernel_rfl))
  ·exact .val (.slice t2.A3 t2.el.length t2.c3) rfl (by kernel_rfl) (fun w hM => run_loadE rfl rfl (((ct2.on hM.below)).addA 6 1 (by decide)) (by kernel_rfl))
  ·exact .call _ #[.slice t2.A3 t2.el.length t2.c3] (.int .i64 (((smsDp t2.el) : Nat) : Int)) rfl (by kernel_rfl) (fun w => (run_callE en_cantileverref03_deeps rfl rfl (by kernel_rfl))) (fun w hM => (ih t2 (List.mem_of_getElem? ht2)).2 _ _ _ (et2.els.on hM.below) (by have h1 := smsSz_mem (List.mem_of_getElem? ht2); have h2 := sm_sz t2; omega))
  ·exact .val (.int .i64 (((max (smsDp t2.th) (smsDp t2.el)) : Nat) : Int)) rfl (by kernel_rfl) (fun w hM => (okVal (run_maxI rfl rfl rfl) (congrArg (Value.int .i64) (by omega))))
  ·exact .val (.int .i64 (((max (smsDp t2.th) (smsDp t2.el)) : Nat) : Int)) rfl (by kernel_rfl) (fun w hM => (by kernel_rfl))
  refine wp_seq ?_
  refine wp_seq ?_
  refine region_go (lst := [0]) (by kernel_rfl) ?_
  refine stepP hK 6 (.int .i64 0) (by kernel_rfl) (by kernel_rfl) fun a hK => ?_
  refine region_done hK [(6, .int .i64 0), (5, .int .i64 (((max (smsDp t2.th) (smsDp t2.el)) : Nat) : Int)), (10, .bool true), (2, .int .i64 0), (0, .slice A l.length c), (4, .int .i64 ((i : Nat) : Int)), (3, .int .i64 ((m : Nat) : Int))] ⟨rfl, rfl, rfl, rfl, rfl, rfl, rfl, trivial⟩ fun a hK => ?_
  refine wp_block ?_
  have hRo := hR
  have hes := exsSz_len t2.es; have h1 := smsSz_take ht2; have h2 := smsSz_le (l := l) (i := i + 1); have h3 := sm_sz t2
  refine wp_loopX (fun x : Nat × Nat => [(10, .bool true), (2, .int .i64 0), (0, .slice A l.length c), (4, .int .i64 ((i : Nat) : Int)), (3, .int .i64 ((m : Nat) : Int)), (6, .int .i64 ((x.1 : Nat) : Int)), (5, .int .i64 ((x.2 : Nat) : Int))]) (fun x : Nat × Nat => []) (fun x : Nat × Nat => x.1 ≤ t2.es.length ∧ x.2 = max (max (smsDp t2.th) (smsDp t2.el)) (exsDp (t2.es.take x.1))) (fun x : Nat × Nat => t2.es.length - x.1) (0, (max (smsDp t2.th) (smsDp t2.el))) (hK.sub ⟨rfl, rfl, rfl, rfl, rfl, rfl, rfl, trivial⟩) hM ⟨Nat.zero_le _, (Nat.max_zero _).symm⟩ ?_
  rintro ⟨k, m2⟩ a w hK hM hR
  replace hK : Knows a 52 [(10, .bool true), (2, .int .i64 0), (0, .slice A l.length c), (4, .int .i64 ((i : Nat) : Int)), (3, .int .i64 ((m : Nat) : Int)), (6, .int .i64 ((k : Nat) : Int)), (5, .int .i64 ((m2 : Nat) : Int))] := hK
  replace hM : Mem w0 w [] := hM
  replace hR : k ≤ t2.es.length ∧ m2 = max (max (smsDp t2.th) (smsDp t2.el)) (exsDp (t2.es.take k)) := hR
  refine wp_seq ?_
  refine wp_seq ?_
  refine region_go (lst := [0, 1, 2, 3, 4, 5, 6, 7]) (by kernel_rfl) ?_
  refine stepM hK 26 6 (by kernel_rfl) (.inl rfl) rfl fun a hK => ?_
  refine stepM hK 27 0 (by kernel_rfl) (.inl rfl) rfl fun a hK => ?_
  refine stepM hK 28 4 (by kernel_rfl) (.inl rfl) rfl fun a hK => ?_
  refine stepP hK 29 (.pointer (some (at2.add (i * 7)))) (by kernel_rfl) (run_ixA (k := i) (s := 7) rfl rfl At2 rfl Tryd.underlying28 (by kernel_rfl) (by omega)) fun a hK => ?_
  refine stepP hK 30 (.pointer (some ((at2.add (i * 7)).add 4))) (by kernel_rfl) (by kernel_rfl) fun a hK => ?_
  refine stepLoad hK 31 (.slice t2.A1 t2.es.length t2.c1) (by kernel_rfl) rfl rfl (((ct2.on hM.below)).addA 4 1 (by decide)) (by kernel_rfl) fun a hK => ?_
  refine stepP hK 32 (.int .i64 ((t2.es.length : Nat) : Int)) (by kernel_rfl) (by kernel_rfl) fun a hK => ?_
  by_cases h3 : (((k : Nat) : Int) : Int) < ((t2.es.length : Nat) : Int)
  ·refine stepP hK 33 (.bool true) (by kernel_rfl) (okBool (b := (decide ((((k : Nat) : Int) : Int) < ((t2.es.length : Nat) : Int)))) (by kernel_rfl) (decide_eq_true h3)) fun a hK => ?_
   refine region_done hK [(33, .bool true), (10, .bool true), (2, .int .i64 0), (0, .slice A l.length c), (4, .int .i64 ((i : Nat) : Int)), (3, .int .i64 ((m : Nat) : Int)), (6, .int .i64 ((k : Nat) : Int)), (5, .int .i64 ((m2 : Nat) : Int))] ⟨rfl, rfl, rfl, rfl, rfl, rfl, rfl, rfl, trivial⟩ fun a hK => ?_
   refine wp_cond_true (hK.get rfl) ?_
   refine wp_skip ?_
   refine wp_seq ?_
   refine wp_block ?_
   refine region_go (lst := [0, 1, 2, 3, 4, 5, 6, 7, 8, 9, 10, 11]) (by kernel_rfl) ?_
   refine stepM hK 36 5 (by kernel_rfl) (.inl rfl) rfl fun a hK => ?_
   refine stepM hK 37 0 (by kernel_rfl) (.inl rfl) rfl fun a hK => ?_
   refine stepM hK 38 4 (by kernel_rfl) (.inl rfl) rfl fun a hK => ?_
   refine stepP hK 39 (.pointer (some (at2.add (i * 7)))) (by kernel_rfl) (run_ixA (k := i) (s := 7) rfl rfl At2 rfl Tryd.underlying28 (by kernel_rfl) (by omega)) fun a hK => ?_
   refine stepP hK 40 (.pointer (some ((at2.add (i * 7)).add 4))) (by kernel_rfl) (by kernel_rfl) fun a hK => ?_
   refine stepLoad hK 41 (.slice t2.A1 t2.es.length t2.c1) (by kernel_rfl) rfl rfl (((ct2.on hM.below)).addA 4 1 (by decide)) (by kernel_rfl) fun a hK => ?_
   refine stepM hK 42 6 (by kernel_rfl) (.inl rfl) rfl fun a hK => ?_
   obtain ⟨t4, ht4⟩ : ∃ t, t2.es[(k : Nat)]? = some t := ⟨_, List.getElem?_eq_getElem (by omega)⟩
   obtain ⟨⟨at4, At4, ct4⟩, et4⟩ := et2.exprs _ _ ht4; have nt4 := et4.len
   refine stepP hK 43 (.pointer (some (at4.add (k * 4)))) (by kernel_rfl) (run_ixA (k := k) (s := 4) rfl rfl At4 rfl Tryd.underlying27 (by kernel_rfl) (by omega)) fun a hK => ?_
   refine stepLoad hK 44 (.agg #[.int .i64 t4.op, .int .i64 t4.num, Str t4.nm, .slice t4.A t4.ks.length t4.c]) (by kernel_rfl) rfl rfl ((ct4.on hM.below)) (by kernel_rfl) fun a hK => ?_
   refine stepRet hK hM 45 #[.agg #[.int .i64 t4.op, .int .i64 t4.num, Str t4.nm, .slice t4.A t4.ks.length t4.c]] (.int .i64 ((t4.dp : Nat) : Int)) (by kernel_rfl) (run_callE en_cantileverref03_deep rfl rfl (by kernel_rfl)) (ref_deep t4 _ (et4.on hM.below) (by have h1 := exsSz_mem (List.mem_of_getElem? ht4); have h2 := sm_sz t2; have h3 := smsSz_mem (List.mem_of_getElem? ht2); omega)) fun a w hK hM => ?_
   refine stepP hK 46 (.int .i64 (((max m2 t4.dp) : Nat) : Int)) (by kernel_rfl) (okVal (run_maxI rfl rfl rfl) (congrArg (Value.int .i64) (by omega))) fun a hK => ?_
   refine stepM hK 5 46 (by kernel_rfl) (.inr rfl) rfl fun a hK => ?_
   refine region_done hK [(5, .int .i64 (((max m2 t4.dp) : Nat) : Int)), (33, .bool true), (10, .bool true), (2, .int .i64 0), (0, .slice A l.length c), (4, .int .i64 ((i : Nat) : Int)), (3, .int .i64 ((m : Nat) : Int)), (6, .int .i64 ((k : Nat) : Int))] ⟨rfl, rfl, rfl, rfl, rfl, rfl, rfl, rfl, trivial⟩ fun a hK => ?_
   refine region_go (lst := [0, 1, 2]) (by kernel_rfl) ?_
   refine stepM hK 34 6 (by kernel_rfl) (.inl rfl) rfl fun a hK => ?_
   refine stepP hK 35 (.int .i64 (((k + 1) : Nat) : Int)) (by kernel_rfl) (run_addN (i := k) (j := 1) rfl rfl rfl (by omega)) fun a hK => ?_
   refine stepM hK 6 35 (by kernel_rfl) (.inr rfl) rfl fun a hK => ?_
   refine region_done hK [(6, .int .i64 (((k + 1) : Nat) : Int)), (5, .int .i64 (((max m2 t4.dp) : Nat) : Int)), (33, .bool true), (10, .bool true), (2, .int .i64 0), (0, .slice A l.length c), (4, .int .i64 ((i : Nat) : Int)), (3, .int .i64 ((m : Nat) : Int))] ⟨rfl, rfl, rfl, rfl, rfl, rfl, rfl, rfl, trivial⟩ fun a hK => ?_
   have hRn : (k + 1) ≤ t2.es.length ∧ ((max m2 t4.dp)) = max (max (smsDp t2.th) (smsDp t2.el)) (exsDp (t2.es.take (k + 1))) := ⟨by omega, by rw [exsDp_take ht4]; omega⟩
   have hmn : t2.es.length - (k + 1) < t2.es.length - k := by omega
   exact ⟨(k + 1, (max m2 t4.dp)), hK.sub ⟨rfl, rfl, rfl, rfl, rfl, rfl, rfl, trivial⟩, hM, hRn, hmn⟩
  ·refine stepP hK 33 (.bool false) (by kernel_rfl) (okBool (b := (decide ((((k : Nat) : Int) : Int) < ((t2.es.length : Nat) : Int)))) (by kernel_rfl) (decide_eq_false h3)) fun a hK => ?_
   refine region_done hK [(33, .bool false), (10, .bool true), (2, .int .i64 0), (0, .slice A l.length c), (4, .int .i64 ((i : Nat) : Int)), (3, .int .i64 ((m : Nat) : Int)), (6, .int .i64 ((k : Nat) : Int)), (5, .int .i64 ((m2 : Nat) : Int))] ⟨rfl, rfl, rfl, rfl, rfl, rfl, rfl, rfl, trivial⟩ fun a hK => ?_
   refine wp_cond_false (hK.get rfl) ?_
   refine wp_exit (exit_then (exit_then (exit_here 2 ?_)))
   refine region_go (lst := [0, 1, 2, 3, 4]) (by kernel_rfl) ?_
   refine stepM hK 47 3 (by kernel_rfl) (.inl rfl) rfl fun a hK => ?_
   refine stepM hK 48 5 (by kernel_rfl) (.inl rfl) rfl fun a hK => ?_
   refine stepP hK 49 (.int .i64 (((m2 + 1) : Nat) : Int)) (by kernel_rfl) (run_addN (i := m2) (j := 1) rfl rfl rfl (by have h4 := hR.2; rw [List.take_of_length_le (by omega)] at h4; have h5 := smsDp_sz t2.th; have h6 := smsDp_sz t2.el; have h7 := exsDp_sz t2.es; have h1 := smsSz_take ht2; have h2 := smsSz_le (l := l) (i := i + 1); have h3 := sm_sz t2; omega)) fun a hK => ?_
   refine stepP hK 50 (.int .i64 (((max m (m2 + 1)) : Nat) : Int)) (by kernel_rfl) (okVal (run_maxI rfl rfl rfl) (congrArg (Value.int .i64) (by omega))) fun a hK => ?_
   refine stepM hK 3 50 (by kernel_rfl) (.inr rfl) rfl fun a hK => ?_
   refine region_done hK [(3, .int .i64 (((max m (m2 + 1)) : Nat) : Int)), (33, .bool false), (10, .bool true), (2, .int .i64 0), (0, .slice A l.length c), (4, .int .i64 ((i : Nat) : Int)), (6, .int .i64 ((k : Nat) : Int)), (5, .int .i64 ((m2 : Nat) : Int))] ⟨rfl, rfl, rfl, rfl, rfl, rfl, rfl, rfl, trivial⟩ fun a hK => ?_
   refine region_go (lst := [0, 1, 2]) (by kernel_rfl) ?_
   refine stepM hK 11 4 (by kernel_rfl) (.inl rfl) rfl fun a hK => ?_
   refine stepP hK 12 (.int .i64 (((i + 1) : Nat) : Int)) (by kernel_rfl) (run_addN (i := i) (j := 1) rfl rfl rfl (by omega)) fun a hK => ?_
   refine stepM hK 4 12 (by kernel_rfl) (.inr rfl) rfl fun a hK => ?_
   refine region_done hK [(4, .int .i64 (((i + 1) : Nat) : Int)), (3, .int .i64 (((max m (m2 + 1)) : Nat) : Int)), (33, .bool false), (10, .bool true), (2, .int .i64 0), (0, .slice A l.length c), (6, .int .i64 ((k : Nat) : Int)), (5, .int .i64 ((m2 : Nat) : Int))] ⟨rfl, rfl, rfl, rfl, rfl, rfl, rfl, rfl, trivial⟩ fun a hK => ?_
   have hRn : (i + 1) ≤ l.length ∧ ((max m (m2 + 1))) = smsDp (l.take (i + 1)) := ⟨by omega, by have h4 := hR.2; rw [List.take_of_length_le (by omega)] at h4; have h5 := smsDp_take ht2; have h6 := sm_dp t2; omega⟩
   have hmn : l.length - (i + 1) < l.length - i := by omega
   exact ⟨(i + 1, (max m (m2 + 1))), hK.sub ⟨rfl, rfl, rfl, rfl, trivial⟩, hM, hRn, hmn⟩
 ·refine stepP hK 10 (.bool false) (by kernel_rfl) (okBool (b := (decide ((((i : Nat) : Int) : Int) < ((l.length : Nat) : Int)))) (by kernel_rfl) (decide_eq_false h1)) fun a hK => ?_
  refine region_done hK [(10, .bool false), (2, .int .i64 0), (0, .slice A l.length c), (4, .int .i64 ((i : Nat) : Int)), (3, .int .i64 ((m : Nat) : Int))] ⟨rfl, rfl, rfl, rfl, rfl, trivial⟩ fun a hK => ?_
  refine wp_cond_false (hK.get rfl) ?_
  refine wp_exit (exit_then (exit_then (exit_here 0 ?_)))
  refine wp_seq ?_
  refine region_go (lst := [0, 1]) (by kernel_rfl) ?_
  refine stepM hK 51 3 (by kernel_rfl) (.inl rfl) rfl fun a hK => ?_
  refine stepM hK 2 51 (by kernel_rfl) (.inr rfl) rfl fun a hK => ?_
  refine region_done hK [(2, .int .i64 ((m : Nat) : Int)), (10, .bool false), (0, .slice A l.length c), (4, .int .i64 ((i : Nat) : Int)), (3, .int .i64 ((m : Nat) : Int))] ⟨rfl, rfl, rfl, rfl, rfl, trivial⟩ fun a hK => ?_
  refine wp_ret ?_
  exact ret_t hK rfl (u := (.int .i64 ((m : Nat) : Int))) rfl (⟨by rw [hR.2, List.take_of_length_le (by omega)], hM.below⟩)
end Go.Proofs.YtmfiiapmkidmkaaDoor
