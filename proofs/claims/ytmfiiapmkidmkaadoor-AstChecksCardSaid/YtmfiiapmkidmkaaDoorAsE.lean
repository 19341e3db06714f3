/-
 Sizes of programs, as the document says; the kit's measure of a program.
-/
import Derived.Test.YtmfiiapmkidmkaaDoorAsB
import Derived.Test.YtmfiiapmkidmkaaDoorTreeE
namespace Go.Proofs.YtmfiiapmkidmkaaDoor
open Go Go.RowKit

theorem en_cantileverref03_Size : Enters Tryd.prog 17 := enters_of Tryd.func17 (by kernel_rfl) rfl
theorem en_cantileverref03_Deep : Enters Tryd.prog 18 := enters_of Tryd.func18 (by kernel_rfl) rfl
theorem en_cantileverkit_LightProgram : Enters Tryd.prog 12 := enters_of Tryd.func12 (by kernel_rfl) rfl
set_option maxRecDepth 100000 in
set_option maxHeartbeats 4000000 in
theorem ref_Size (p : Pg) (w0 : World) (hp : PgAt w0 p) (hsz : thsSz p.ts ≤ 1000000) : Calls Tryd.prog 17 #[.agg #[.slice p.A1 p.ds.length p.c1, .slice p.A2 p.ts.length p.c2]] w0 (Ret w0 (.int .i64 ((thsSz p.ts : Nat) : Int))) := by
 have hpl := hp.len
 refine calls_K (args := [.agg #[.slice p.A1 p.ds.length p.c1, .slice p.A2 p.ts.length p.c2]]) (n := 21) (env := [(0, .agg #[.slice p.A1 p.ds.length p.c1, .slice p.A2 p.ts.length p.c2])]) Tryd.func17 rfl rfl rfl ⟨rfl, trivial⟩ fun a w hK hM => ?_
 refine wp_seq ?_
 refine region_go (lst := [0, 1]) (by kernel_rfl) ?_
 refine stepAlloc hK hM 1 25 [.slice p.A1 p.ds.length p.c1, .slice p.A2 p.ts.length p.c2] (fun b => .pointer (some ⟨b, 0, none⟩)) (by kernel_rfl) (by kernel_rfl) fun b1 a w hK hM => ?_
 refine stepP hK 2 (.int .i64 0) (by kernel_rfl) (by kernel_rfl) fun a hK => ?_
 refine region_done hK [(2, .int .i64 0), (1, .pointer (some ⟨b1, 0, none⟩)), (0, .agg #[.slice p.A1 p.ds.length p.c1, .slice p.A2 p.ts.length p.c2])] ⟨rfl, rfl, rfl, trivial⟩ fun a hK => ?_
 refine wp_seq ?_
 refine region_go (lst := [0]) (by kernel_rfl) ?_
 refine stepP hK 3 (.int .i64 0) (by kernel_rfl) (by kernel_rfl) fun a hK => ?_
 refine region_done hK [(3, .int .i64 0), (2, .int .i64 0), (1, .pointer (some ⟨b1, 0, none⟩)), (0, .agg #[.slice p.A1 p.ds.length p.c1, .slice p.A2 p.ts.length p.c2])] ⟨rfl, rfl, rfl, rfl, trivial⟩ fun a hK => ?_
 refine wp_seq ?_
 refine wp_seq ?_
 refine region_go (lst := [0]) (by kernel_rfl) ?_
 refine stepP hK 4 (.int .i64 0) (by kernel_rfl) (by kernel_rfl) fun a hK => ?_
 refine region_done hK [(4, .int .i64 0), (3, .int .i64 0), (2, .int .i64 0), (1, .pointer (some ⟨b1, 0, none⟩)), (0, .agg #[.slice p.A1 p.ds.length p.c1, .slice p.A2 p.ts.length p.c2])] ⟨rfl, rfl, rfl, rfl, rfl, trivial⟩ fun a hK => ?_
 refine wp_block ?_
 refine wp_loopX (fun x : Nat × Nat => [(2, .int .i64 0), (1, .pointer (some ⟨b1, 0, none⟩)), (0, .agg #[.slice p.A1 p.ds.length p.c1, .slice p.A2 p.ts.length p.c2]), (4, .int .i64 ((x.1 : Nat) : Int)), (3, .int .i64 ((x.2 : Nat) : Int))]) (fun x : Nat × Nat => [.row b1 25 [.slice p.A1 p.ds.length p.c1, .slice p.A2 p.ts.length p.c2]]) (fun x : Nat × Nat => x.1 ≤ p.ts.length ∧ x.2 = thsSz (p.ts.take x.1)) (fun x : Nat × Nat => p.ts.length - x.1) (0, 0) (hK.sub ⟨rfl, rfl, rfl, rfl, rfl, trivial⟩) hM ⟨Nat.zero_le _, rfl⟩ ?_
 rintro ⟨i, m⟩ a w hK hM hR
 replace hK : Knows a 21 [(2, .int .i64 0), (1, .pointer (some ⟨b1, 0, none⟩)), (0, .agg #[.slice p.A1 p.ds.length p.c1, .slice p.A2 p.ts.length p.c2]), (4, .int .i64 ((i : Nat) : Int)), (3, .int .i64 ((m : Nat) : Int))] := hK
 replace hM : Mem w0 w [.row b1 25 [.slice p.A1 p.ds.length p.c1, .slice p.A2 p.ts.length p.c2]] := hM
 replace hR : i ≤ p.ts.length ∧ m = thsSz (p.ts.take i) := hR
 refine wp_seq ?_
 refine wp_seq ?_
 refine region_go (lst := [0, 1, 2, 3, 4]) (by kernel_rfl) ?_
 refine stepM hK 5 4 (by kernel_rfl) (.inl rfl) rfl fun a hK => ?_
 refine stepP hK 6 (.pointer (some ⟨b1, 1, none⟩)) (by kernel_rfl) (by kernel_rfl) fun a hK => ?_
 refine stepLoad hK 7 (.slice p.A2 p.ts.length p.c2) (by kernel_rfl) rfl rfl ((hM.row 0 rfl).cells 1 1) (by kernel_rfl) fun a hK => ?_
 refine stepP hK 8 (.int .i64 ((p.ts.length : Nat) : Int)) (by kernel_rfl) (by kernel_rfl) fun a hK => ?_
 by_cases h2 : (((i : Nat) : Int) : Int) < ((p.ts.length : Nat) : Int)
 ·refine stepP hK 9 (.bool true) (by kernel_rfl) (okBool (b := (decide ((((i : Nat) : Int) : Int) < ((p.ts.length : Nat) : Int)))) (by kernel_rfl) (decide_eq_true h2)) fun a hK => ?_
  refine region_done hK [(9, .bool true), (2, .int .i64 0), (1, .pointer (some ⟨b1, 0, none⟩)), (0, .agg #[.slice p.A1 p.ds.length p.c1, .slice p.A2 p.ts.length p.c2]), (4, .int .i64 ((i : Nat) : Int)), (3, .int .i64 ((m : Nat) : Int))] ⟨rfl, rfl, rfl, rfl, rfl, rfl, trivial⟩ fun a hK => ?_
  refine wp_cond_true (hK.get rfl) ?_
  refine wp_skip ?_
  refine wp_seq ?_
  refine wp_block ?_
  refine region_go (lst := [0, 1, 2, 3, 4, 5, 6, 7, 8]) (by kernel_rfl) ?_
  refine stepM hK 12 3 (by kernel_rfl) (.inl rfl) rfl fun a hK => ?_
  refine stepP hK 13 (.pointer (some ⟨b1, 1, none⟩)) (by kernel_rfl) (by kernel_rfl) fun a hK => ?_
  refine stepLoad hK 14 (.slice p.A2 p.ts.length p.c2) (by kernel_rfl) rfl rfl ((hM.row 0 rfl).cells 1 1) (by kernel_rfl) fun a hK => ?_
  refine stepM hK 15 4 (by kernel_rfl) (.inl rfl) rfl fun a hK => ?_
  obtain ⟨t3, ht3⟩ : ∃ t, p.ts[(i : Nat)]? = some t := ⟨_, List.getElem?_eq_getElem (by omega)⟩
  obtain ⟨⟨at3, At3, ct3⟩, et3⟩ := hp.threads _ _ ht3; have nt3 := et3.2
  refine stepP hK 16 (.pointer (some (at3.add (i * 1)))) (by kernel_rfl) (run_ixA (k := i) (s := 1) rfl rfl At3 rfl Tryd.underlying23 (by kernel_rfl) (by omega)) fun a hK => ?_
  refine stepLoad hK 17 (.slice t3.A t3.l.length t3.c) (by kernel_rfl) rfl rfl ((ct3.on hM.below)) (by kernel_rfl) fun a hK => ?_
  refine stepRet hK hM 18 #[.slice t3.A t3.l.length t3.c] (.int .i64 (((smsSz t3.l) : Nat) : Int)) (by kernel_rfl) (run_callE en_cantileverref03_sizes rfl rfl (by kernel_rfl)) (ref_sizes t3.l _ _ _ (et3.1.on hM.below) (by have h1 := thsSz_mem ht3; omega)) fun a w hK hM => ?_
  refine stepP hK 19 (.int .i64 (((m + (smsSz t3.l)) : Nat) : Int)) (by kernel_rfl) (run_addN (i := m) (j := (smsSz t3.l)) rfl rfl rfl (by have h1 := thsSz_take ht3; have h2 := thsSz_le (l := p.ts) (i := i + 1); omega)) fun a hK => ?_
  refine stepM hK 3 19 (by kernel_rfl) (.inr rfl) rfl fun a hK => ?_
  refine region_done hK [(3, .int .i64 (((m + (smsSz t3.l)) : Nat) : Int)), (9, .bool true), (2, .int .i64 0), (1, .pointer (some ⟨b1, 0, none⟩)), (0, .agg #[.slice p.A1 p.ds.length p.c1, .slice p.A2 p.ts.length p.c2]), (4, .int .i64 ((i : Nat) : Int))] ⟨rfl, rfl, rfl, rfl, rfl, rfl, trivial⟩ fun a hK => ?_
  refine region_go (lst := [0, 1, 2]) (by kernel_rfl) ?_
  refine stepM hK 10 4 (by kernel_rfl) (.inl rfl) rfl fun a hK => ?_
  refine stepP hK 11 (.int .i64 (((i + 1) : Nat) : Int)) (by kernel_rfl) (run_addN (i := i) (j := 1) rfl rfl rfl (by omega)) fun a hK => ?_
  refine stepM hK 4 11 (by kernel_rfl) (.inr rfl) rfl fun a hK => ?_
  refine region_done hK [(4, .int .i64 (((i + 1) : Nat) : Int)), (3, .int .i64 (((m + (smsSz t3.l)) : Nat) : Int)), (9, .bool true), (2, .int .i64 0), (1, .pointer (some ⟨b1, 0, none⟩)), (0, .agg #[.slice p.A1 p.ds.length p.c1, .slice p.A2 p.ts.length p.c2])] ⟨rfl, rfl, rfl, rfl, rfl, rfl, trivial⟩ fun a hK => ?_
  have hRn : (i + 1) ≤ p.ts.length ∧ ((m + (smsSz t3.l))) = thsSz (p.ts.take (i + 1)) := ⟨by omega, by rw [thsSz_take ht3, hR.2]⟩
  have hmn : p.ts.length - (i + 1) < p.ts.length - i := by omega
  exact ⟨(i + 1, (m + (smsSz t3.l))), hK.sub ⟨rfl, rfl, rfl, rfl, rfl, trivial⟩, hM, hRn, hmn⟩
 ·refine stepP hK 9 (.bool false) (by kernel_rfl) (okBool (b := (decide ((((i : Nat) : Int) : Int) < ((p.ts.length : Nat) : Int)))) (by kernel_rfl) (decide_eq_false h2)) fun a hK => ?_
  refine region_done hK [(9, .bool false), (2, .int .i64 0), (1, .pointer (some ⟨b1, 0, none⟩)), (0, .agg #[.slice p.A1 p.ds.length p.c1, .slice p.A2 p.ts.length p.c2]), (4, .int .i64 ((i : Nat) : Int)), (3, .int .i64 ((m : Nat) : Int))] ⟨rfl, rfl, rfl, rfl, rfl, rfl, trivial⟩ fun a hK => ?_
  refine wp_cond_false (hK.get rfl) ?_
  refine wp_exit (exit_then (exit_then (exit_here 0 ?_)))
  refine wp_seq ?_
  refine region_go (lst := [0, 1]) (by kernel_rfl) ?_
  refine stepM hK 20 3 (by kernel_rfl) (.inl rfl) rfl fun a hK => ?_
  refine stepM hK 2 20 (by kernel_rfl) (.inr rfl) rfl fun a hK => ?_
  refine region_done hK [(2, .int .i64 ((m : Nat) : Int)), (9, .bool false), (1, .pointer (some ⟨b1, 0, none⟩)), (0, .agg #[.slice p.A1 p.ds.length p.c1, .slice p.A2 p.ts.length p.c2]), (4, .int .i64 ((i : Nat) : Int)), (3, .int .i64 ((m : Nat) : Int))] ⟨rfl, rfl, rfl, rfl, rfl, rfl, trivial⟩ fun a hK => ?_
  refine wp_ret ?_
  exact ret_t hK rfl (u := (.int .i64 ((m : Nat) : Int))) rfl (⟨by rw [hR.2, List.take_of_length_le (by omega)], hM.below⟩)
set_option maxRecDepth 100000 in
set_option maxHeartbeats 4000000 in
theorem ref_Deep (p : Pg) (w0 : World) (hp : PgAt w0 p) (hsz : thsSz p.ts ≤ 1000000) : Calls Tryd.prog 18 #[.agg #[.slice p.A1 p.ds.length p.c1, .slice p.A2 p.ts.length p.c2]] w0 (Ret w0 (.int .i64 ((thsDp p.ts : Nat) : Int))) := by
 have hpl := hp.len
 refine calls_K (args := [.agg #[.slice p.A1 p.ds.length p.c1, .slice p.A2 p.ts.length p.c2]]) (n := 21) (env := [(0, .agg #[.slice p.A1 p.ds.length p.c1, .slice p.A2 p.ts.length p.c2])]) Tryd.func18 rfl rfl rfl ⟨rfl, trivial⟩ fun a w hK hM => ?_
 refine wp_seq ?_
 refine region_go (lst := [0, 1]) (by kernel_rfl) ?_
 refine stepAlloc hK hM 1 25 [.slice p.A1 p.ds.length p.c1, .slice p.A2 p.ts.length p.c2] (fun b => .pointer (some ⟨b, 0, none⟩)) (by kernel_rfl) (by kernel_rfl) fun b1 a w hK hM => ?_
 refine stepP hK 2 (.int .i64 0) (by kernel_rfl) (by kernel_rfl) fun a hK => ?_
 refine region_done hK [(2, .int .i64 0), (1, .pointer (some ⟨b1, 0, none⟩)), (0, .agg #[.slice p.A1 p.ds.length p.c1, .slice p.A2 p.ts.length p.c2])] ⟨rfl, rfl, rfl, trivial⟩ fun a hK => ?_
 refine wp_seq ?_
 refine region_go (lst := [0]) (by kernel_rfl) ?_
 refine stepP hK 3 (.int .i64 0) (by kernel_rfl) (by kernel_rfl) fun a hK => ?_
 refine region_done hK [(3, .int .i64 0), (2, .int .i64 0), (1, .pointer (some ⟨b1, 0, none⟩)), (0, .agg #[.slice p.A1 p.ds.length p.c1, .slice p.A2 p.ts.length p.c2])] ⟨rfl, rfl, rfl, rfl, trivial⟩ fun a hK => ?_
 refine wp_seq ?_
 refine wp_seq ?_
 refine region_go (lst := [0]) (by kernel_rfl) ?_
 refine stepP hK 4 (.int .i64 0) (by kernel_rfl) (by kernel_rfl) fun a hK => ?_
 refine region_done hK [(4, .int .i64 0), (3, .int .i64 0), (2, .int .i64 0), (1, .pointer (some ⟨b1, 0, none⟩)), (0, .agg #[.slice p.A1 p.ds.length p.c1, .slice p.A2 p.ts.length p.c2])] ⟨rfl, rfl, rfl, rfl, rfl, trivial⟩ fun a hK => ?_
 refine wp_block ?_
 refine wp_loopX (fun x : Nat × Nat => [(2, .int .i64 0), (1, .pointer (some ⟨b1, 0, none⟩)), (0, .agg #[.slice p.A1 p.ds.length p.c1, .slice p.A2 p.ts.length p.c2]), (4, .int .i64 ((x.1 : Nat) : Int)), (3, .int .i64 ((x.2 : Nat) : Int))]) (fun x : Nat × Nat => [.row b1 25 [.slice p.A1 p.ds.length p.c1, .slice p.A2 p.ts.length p.c2]]) (fun x : Nat × Nat => x.1 ≤ p.ts.length ∧ x.2 = thsDp (p.ts.take x.1)) (fun x : Nat × Nat => p.ts.length - x.1) (0, 0) (hK.sub ⟨rfl, rfl, rfl, rfl, rfl, trivial⟩) hM ⟨Nat.zero_le _, rfl⟩ ?_
 rintro ⟨i, m⟩ a w hK hM hR
 replace hK : Knows a 21 [(2, .int .i64 0), (1, .pointer (some ⟨b1, 0, none⟩)), (0, .agg #[.slice p.A1 p.ds.length p.c1, .slice p.A2 p.ts.length p.c2]), (4, .int .i64 ((i : Nat) : Int)), (3, .int .i64 ((m : Nat) : Int))] := hK
 replace hM : Mem w0 w [.row b1 25 [.slice p.A1 p.ds.length p.c1, .slice p.A2 p.ts.length p.c2]] := hM
 replace hR : i ≤ p.ts.length ∧ m = thsDp (p.ts.take i) := hR
 refine wp_seq ?_
 refine wp_seq ?_
 refine region_go (lst := [0, 1, 2, 3, 4]) (by kernel_rfl) ?_
 refine stepM hK 5 4 (by kernel_rfl) (.inl rfl) rfl fun a hK => ?_
 refine stepP hK 6 (.pointer (some ⟨b1, 1, none⟩)) (by kernel_rfl) (by kernel_rfl) fun a hK => ?_
 refine stepLoad hK 7 (.slice p.A2 p.ts.length p.c2) (by kernel_rfl) rfl rfl ((hM.row 0 rfl).cells 1 1) (by kernel_rfl) fun a hK => ?_
 refine stepP hK 8 (.int .i64 ((p.ts.length : Nat) : Int)) (by kernel_rfl) (by kernel_rfl) fun a hK => ?_
 by_cases h2 : (((i : Nat) : Int) : Int) < ((p.ts.length : Nat) : Int)
 ·refine stepP hK 9 (.bool true) (by kernel_rfl) (okBool (b := (decide ((((i : Nat) : Int) : Int) < ((p.ts.length : Nat) : Int)))) (by kernel_rfl) (decide_eq_true h2)) fun a hK => ?_
  refine region_done hK [(9, .bool true), (2, .int .i64 0), (1, .pointer (some ⟨b1, 0, none⟩)), (0, .agg #[.slice p.A1 p.ds.length p.c1, .slice p.A2 p.ts.length p.c2]), (4, .int .i64 ((i : Nat) : Int)), (3, .int .i64 ((m : Nat) : Int))] ⟨rfl, rfl, rfl, rfl, rfl, rfl, trivial⟩ fun a hK => ?_
  refine wp_cond_true (hK.get rfl) ?_
  refine wp_skip ?_
  refine wp_seq ?_
  refine wp_block ?_
  refine region_go (lst := [0, 1, 2, 3, 4, 5, 6, 7, 8]) (by kernel_rfl) ?_
  refine stepM hK 12 3 (by kernel_rfl) (.inl rfl) rfl fun a hK => ?_
  refine stepP hK 13 (.pointer (some ⟨b1, 1, none⟩)) (by kernel_rfl) (by kernel_rfl) fun a hK => ?_
  refine stepLoad hK 14 (.slice p.A2 p.ts.length p.c2) (by kernel_rfl) rfl rfl ((hM.row 0 rfl).cells 1 1) (by kernel_rfl) fun a hK => ?_
  refine stepM hK 15 4 (by kernel_rfl) (.inl rfl) rfl fun a hK => ?_
  obtain ⟨t3, ht3⟩ : ∃ t, p.ts[(i : Nat)]? = some t := ⟨_, List.getElem?_eq_getElem (by omega)⟩
  obtain ⟨⟨at3, At3, ct3⟩, et3⟩ := hp.threads _ _ ht3; have nt3 := et3.2
  refine stepP hK 16 (.pointer (some (at3.add (i * 1)))) (by kernel_rfl) (run_ixA (k := i) (s := 1) rfl rfl At3 rfl Tryd.underlying23 (by kernel_rfl) (by omega)) fun a hK => ?_
  refine stepLoad hK 17 (.slice t3.A t3.l.length t3.c) (by kernel_rfl) rfl rfl ((ct3.on hM.below)) (by kernel_rfl) fun a hK => ?_
  refine stepRet hK hM 18 #[.slice t3.A t3.l.length t3.c] (.int .i64 (((smsDp t3.l) : Nat) : Int)) (by kernel_rfl) (run_callE en_cantileverref03_deeps rfl rfl (by kernel_rfl)) (ref_deeps t3.l _ _ _ (et3.1.on hM.below) (by have h1 := thsSz_mem ht3; omega)) fun a w hK hM => ?_
  refine stepP hK 19 (.int .i64 (((max m (smsDp t3.l)) : Nat) : Int)) (by kernel_rfl) (okVal (run_maxI rfl rfl rfl) (congrArg (Value.int .i64) (by omega))) fun a hK => ?_
  refine stepM hK 3 19 (by kernel_rfl) (.inr rfl) rfl fun a hK => ?_
  refine region_done hK [(3, .int .i64 (((max m (smsDp t3.l)) : Nat) : Int)), (9, .bool true), (2, .int .i64 0), (1, .pointer (some ⟨b1, 0, none⟩)), (0, .agg #[.slice p.A1 p.ds.length p.c1, .slice p.A2 p.ts.length p.c2]), (4, .int .i64 ((i : Nat) : Int))] ⟨rfl, rfl, rfl, rfl, rfl, rfl, trivial⟩ fun a hK => ?_
  refine region_go (lst := [0, 1, 2]) (by kernel_rfl) ?_
  refine stepM hK 10 4 (by kernel_rfl) (.inl rfl) rfl fun a hK => ?_
  refine stepP hK 11 (.int .i64 (((i + 1) : Nat) : Int)) (by kernel_rfl) (run_addN (i := i) (j := 1) rfl rfl rfl (by omega)) fun a hK => ?_
  refine stepM hK 4 11 (by kernel_rfl) (.inr rfl) rfl fun a hK => ?_
  refine region_done hK [(4, .int .i64 (((i + 1) : Nat) : Int)), (3, .int .i64 (((max m (smsDp t3.l)) : Nat) : Int)), (9, .bool true), (2, .int .i64 0), (1, .pointer (some ⟨b1, 0, none⟩)), (0, .agg #[.slice p.A1 p.ds.length p.c1, .slice p.A2 p.ts.length p.c2])] ⟨rfl, rfl, rfl, rfl, rfl, rfl, trivial⟩ fun a hK => ?_
  have hRn : (i + 1) ≤ p.ts.length ∧ ((max m (smsDp t3.l))) = thsDp (p.ts.take (i + 1)) := ⟨by omega, by rw [thsDp_take ht3, hR.2]⟩
  have hmn : p.ts.length - (i + 1) < p.ts.length - i := by omega
  exact ⟨(i + 1, (max m (smsDp t3.l))), hK.sub ⟨rfl, rfl, rfl, rfl, rfl, trivial⟩, hM, hRn, hmn⟩
 ·refine stepP hK 9 (.bool false) (by kernel_rfl) (okBool (b := (decide ((((i : Nat) : Int) : Int) < ((p.ts.length : Nat) : Int)))) (by kernel_rfl) (decide_eq_false h2)) fun a hK => ?_
  refine region_done hK [(9, .bool false), (2, .int .i64 0), (1, .pointer (some ⟨b1, 0, none⟩)), (0, .agg #[.slice p.A1 p.ds.length p.c1, .slice p.A2 p.ts.length p.c2]), (4, .int .i64 ((i : Nat) : Int)), (3, .int .i64 ((m : Nat) : Int))] ⟨rfl, rfl, rfl, rfl, rfl, rfl, trivial⟩ fun a hK => ?_
  refine wp_cond_false (hK.get rfl) ?_
  refine wp_exit (exit_then (exit_then (exit_here 0 ?_)))
  refine wp_seq ?_
  refine region_go (lst := [0, 1]) (by kernel_rfl) ?_
  refine stepM hK 20 3 (by kernel_rfl) (.inl rfl) rfl fun a hK => ?_
  refine stepM hK 2 20 (by kernel_rfl) (.inr rfl) rfl fun a hK => ?_
  refine region_done hK [(2, .int .i64 ((m : Nat) : Int)), (9, .bool false), (1, .pointer (some ⟨b1, 0, none⟩)), (0, .agg #[.slice p.A1 p.ds.length p.c1, .slice p.A2 p.ts.length p.c2]), (4, .int .i64 ((i : Nat) : Int)), (3, .int .i64 ((m : Nat) : Int))] ⟨rfl, rfl, rfl, rfl, rfl, rfl, trivial⟩ fun a hK => ?_
  refine wp_ret ?_
  exact ret_t hK rfl (u := (.int .i64 ((m : Nat) : Int))) rfl (⟨by rw [hR.2, List.take_of_length_le (by omega)], hM.below⟩)
set_option maxRecDepth 100000 in
set_option maxHeartbeats 4000000 in
theorem kit_LightProgram (p : Pg) (n : Int) (w0 : World) (hp : PgAt w0 p) (hn0 : 0 ≤ n) (hn1 : n ≤ 100000) : Calls Tryd.prog 12 #[.agg #[.slice p.A1 p.ds.length p.c1, .slice p.A2 p.ts.length p.c2], .int .i64 n] w0 (Ret w0 (.bool (decide ((0 : Int) ≤ pgHf p n)))) := by
 have hpl := hp.len
 refine calls_K (args := [.agg #[.slice p.A1 p.ds.length p.c1, .slice p.A2 p.ts.length p.c2], .int .i64 n]) (n := 64) (env := [(0, .agg #[.slice p.A1 p.ds.length p.c1, .slice p.A2 p.ts.length p.c2]), (1, .int .i64 n)]) Tryd.func12 rfl rfl rfl ⟨rfl, rfl, trivial⟩ fun a w hK hM => ?_
 refine wp_seq ?_
 refine region_go (lst := [0, 1]) (by kernel_rfl) ?_
 refine stepAlloc hK hM 2 25 [.slice p.A1 p.ds.length p.c1, .slice p.A2 p.ts.length p.c2] (fun b => .pointer (some ⟨b, 0, none⟩)) (by kernel_rfl) (by kernel_rfl) fun b1 a w hK hM => ?_
 refine stepP hK 4 (.bool false) (by kernel_rfl) (by kernel_rfl) fun a hK => ?_
 refine region_done hK [(4, .bool false), (2, .pointer (some ⟨b1, 0, none⟩)), (0, .agg #[.slice p.A1 p.ds.length p.c1, .slice p.A2 p.ts.length p.c2]), (1, .int .i64 n)] ⟨rfl, rfl, rfl, rfl, trivial⟩ fun a hK => ?_
 refine wp_seq ?_
 refine region_go (lst := [0, 1, 2, 3, 4, 5, 6, 7, 8, 9, 10, 11, 12, 13, 14, 15]) (by kernel_rfl) ?_
 refine stepM hK 8 1 (by kernel_rfl) (.inl rfl) rfl fun a hK => ?_
 refine stepM hK 9 1 (by kernel_rfl) (.inl rfl) rfl fun a hK => ?_
 refine stepP hK 10 (.int .i64 (n + 1)) (by kernel_rfl) (run_addZ rfl rfl rfl (by omega) (by omega)) fun a hK => ?_
 refine stepP hK 11 (.pointer (some ⟨b1, 0, none⟩)) (by kernel_rfl) (by kernel_rfl) fun a hK => ?_
 refine stepLoad hK 12 (.slice p.A1 p.ds.length p.c1) (by kernel_rfl) rfl rfl ((hM.row 0 rfl).cells 0 1) (by kernel_rfl) fun a hK => ?_
 refine stepP hK 13 (.int .i64 ((p.ds.length : Nat) : Int)) (by kernel_rfl) (by kernel_rfl) fun a hK => ?_
 refine stepP hK 14 (.int .i64 (min (n + 1) ((p.ds.length : Nat) : Int))) (by kernel_rfl) (run_minI rfl rfl rfl) fun a hK => ?_
 refine stepP hK 15 (.int .i64 (n - (min (n + 1) ((p.ds.length : Nat) : Int)))) (by kernel_rfl) (run_subZ rfl rfl rfl (by omega) (by omega)) fun a hK => ?_
 refine stepM hK 16 1 (by kernel_rfl) (.inl rfl) rfl fun a hK => ?_
 refine stepP hK 17 (.int .i64 (n + 1)) (by kernel_rfl) (run_addZ rfl rfl rfl (by omega) (by omega)) fun a hK => ?_
 refine stepP hK 18 (.pointer (some ⟨b1, 1, none⟩)) (by kernel_rfl) (by kernel_rfl) fun a hK => ?_
 refine stepLoad hK 19 (.slice p.A2 p.ts.length p.c2) (by kernel_rfl) rfl rfl ((hM.row 0 rfl).cells 1 1) (by kernel_rfl) fun a hK => ?_
 refine stepP hK 20 (.int .i64 ((p.ts.length : Nat) : Int)) (by kernel_rfl) (by kernel_rfl) fun a hK => ?_
 refine stepP hK 21 (.int .i64 (min (n + 1) ((p.ts.length : Nat) : Int))) (by kernel_rfl) (run_minI rfl rfl rfl) fun a hK => ?_
 refine stepP hK 22 (.int .i64 ((n - (min (n + 1) ((p.ds.length : Nat) : Int))) - (min (n + 1) ((p.ts.length : Nat) : Int)))) (by kernel_rfl) (run_subZ rfl rfl rfl (by omega) (by omega)) fun a hK => ?_
 refine stepM hK 5 22 (by kernel_rfl) (.inr rfl) rfl fun a hK => ?_
 refine region_done hK [(5, .int .i64 ((n - (min (n + 1) ((p.ds.length : Nat) : Int))) - (min (n + 1) ((p.ts.length : Nat) : Int)))), (4, .bool false), (2, .pointer (some ⟨b1, 0, none⟩)), (0, .agg #[.slice p.A1 p.ds.length p.c1, .slice p.A2 p.ts.length p.c2]), (1, .int .i64 n)] ⟨rfl, rfl, rfl, rfl, rfl, trivial⟩ fun a hK => ?_
 refine wp_seq ?_
 refine wp_seq ?_
 refine region_go (lst := [0]) (by kernel_rfl) ?_
 refine stepP hK 6 (.int .i64 0) (by kernel_rfl) (by kernel_rfl) fun a hK => ?_
 refine region_done hK [(6, .int .i64 0), (5, .int .i64 ((n - (min (n + 1) ((p.ds.length : Nat) : Int))) - (min (n + 1) ((p.ts.length : Nat) : Int)))), (4, .bool false), (2, .pointer (some ⟨b1, 0, none⟩)), (0, .agg #[.slice p.A1 p.ds.length p.c1, .slice p.A2 p.ts.length p.c2]), (1, .int .i64 n)] ⟨rfl, rfl, rfl, rfl, rfl, rfl, trivial⟩ fun a hK => ?_
 refine wp_block ?_
 refine wp_loopX (fun x : Nat × Int => [(4, .bool false), (2, .pointer (some ⟨b1, 0, none⟩)), (0, .agg #[.slice p.A1 p.ds.length p.c1, .slice p.A2 p.ts.length p.c2]), (1, .int .i64 n), (6, .int .i64 ((x.1 : Nat) : Int)), (5, .int .i64 x.2)]) (fun x : Nat × Int => [.row b1 25 [.slice p.A1 p.ds.length p.c1, .slice p.A2 p.ts.length p.c2]]) (fun x : Nat × Int => x.1 ≤ p.ds.length ∧ dcsHf (p.ds.drop x.1) x.2 = dcsHf p.ds (n - min (n + 1) ((p.ds.length : Nat) : Int) - min (n + 1) ((p.ts.length : Nat) : Int)) ∧ x.2 ≤ 1000000) (fun x : Nat × Int => p.ds.length - x.1) (0, ((n - (min (n + 1) ((p.ds.length : Nat) : Int))) - (min (n + 1) ((p.ts.length : Nat) : Int)))) (hK.sub ⟨rfl, rfl, rfl, rfl, rfl, rfl, trivial⟩) hM ⟨Nat.zero_le _, rfl, by omega⟩ ?_
 rintro ⟨i, v⟩ a w hK hM hR
 replace hK : Knows a 64 [(4, .bool false), (2, .pointer (some ⟨b1, 0, none⟩)), (0, .agg #[.slice p.A1 p.ds.length p.c1, .slice p.A2 p.ts.length p.c2]), (1, .int .i64 n), (6, .int .i64 ((i : Nat) : Int)), (5, .int .i64 v)] := hK
 replace hM : Mem w0 w [.row b1 25 [.slice p.A1 p.ds.length p.c1, .slice p.A2 p.ts.length p.c2]] := hM
 replace hR : i ≤ p.ds.length ∧ dcsHf (p.ds.drop i) v = dcsHf p.ds (n - min (n + 1) ((p.ds.length : Nat) : Int) - min (n + 1) ((p.ts.length : Nat) : Int)) ∧ v ≤ 1000000 := hR
 refine wp_seq ?_
 refine wp_seq ?_
 refine region_go (lst := [0, 1, 2, 3, 4, 5, 6, 7, 8]) (by kernel_rfl) ?_
 refine stepM hK 23 6 (by kernel_rfl) (.inl rfl) rfl fun a hK => ?_
 refine stepP hK 24 (.pointer (some ⟨b1, 0, none⟩)) (by kernel_rfl) (by kernel_rfl) fun a hK => ?_
 refine stepLoad hK 25 (.slice p.A1 p.ds.length p.c1) (by kernel_rfl) rfl rfl ((hM.row 0 rfl).cells 0 1) (by kernel_rfl) fun a hK => ?_
 refine stepP hK 26 (.int .i64 ((p.ds.length : Nat) : Int)) (by kernel_rfl) (by kernel_rfl) fun a hK => ?_
 by_cases h2 : (((i : Nat) : Int) : Int) < ((p.ds.length : Nat) : Int)
 ·refine stepP hK 27 (.bool true) (by kernel_rfl) (okBool (b := (decide ((((i : Nat) : Int) : Int) < ((p.ds.length : Nat) : Int)))) (by kernel_rfl) (decide_eq_true h2)) fun a hK => ?_
  refine stepM hK 28 27 (by kernel_rfl) (.inl rfl) rfl fun a hK => ?_
  refine stepM hK 29 5 (by kernel_rfl) (.inl rfl) rfl fun a hK => ?_
  by_cases h3 : (0 : Int) ≤ v
  ·refine stepP hK 30 (.bool true) (by kernel_rfl) (okBool (b := (decide ((0 : Int) ≤ v))) (by kernel_rfl) (decide_eq_true h3)) fun a hK => ?_
   refine stepP hK 31 (.bool true) (by kernel_rfl) (by kernel_rfl) fun a hK => ?_
   refine region_done hK [(31, .bool true), (4, .bool false), (2, .pointer (some ⟨b1, 0, none⟩)), (0, .agg #[.slice p.A1 p.ds.length p.c1, .slice p.A2 p.ts.length p.c2]), (1, .int .i64 n), (6, .int .i64 ((i : Nat) : Int)), (5, .int .i64 v)] ⟨rfl, rfl, rfl, rfl, rfl, rfl, rfl, trivial⟩ fun a hK => ?_
   refine wp_cond_true (hK.get rfl) ?_
   refine wp_skip ?_
   refine wp_seq ?_
   refine wp_block ?_
   refine region_go (lst := [0, 1, 2, 3, 4, 5, 6, 7, 8, 9, 10]) (by kernel_rfl) ?_
   refine stepM hK 34 5 (by kernel_rfl) (.inl rfl) rfl fun a hK => ?_
   refine stepP hK 35 (.pointer (some ⟨b1, 0, none⟩)) (by kernel_rfl) (by kernel_rfl) fun a hK => ?_
   refine stepLoad hK 36 (.slice p.A1 p.ds.length p.c1) (by kernel_rfl) rfl rfl ((hM.row 0 rfl).cells 0 1) (by kernel_rfl) fun a hK => ?_
   refine stepM hK 37 6 (by kernel_rfl) (.inl rfl) rfl fun a hK => ?_
   obtain ⟨t4, ht4⟩ : ∃ t, p.ds[(i : Nat)]? = some t := ⟨_, List.getElem?_eq_getElem (by omega)⟩
   obtain ⟨⟨at4, At4, ct4⟩, et4⟩ := hp.decls _ _ ht4; have nt4 := et4
   refine stepP hK 38 (.pointer (some (at4.add (i * 3)))) (by kernel_rfl) (run_ixA (k := i) (s := 3) rfl rfl At4 rfl Tryd.underlying22 (by kernel_rfl) (by omega)) fun a hK => ?_
   refine stepP hK 39 (.pointer (some (at4.add (i * 3)))) (by kernel_rfl) (by kernel_rfl) fun a hK => ?_
   refine stepLoad hK 40 (Str t4.nm) (by kernel_rfl) rfl rfl (((ct4.on hM.below)).addZ 1) (by kernel_rfl) fun a hK => ?_
   refine stepP hK 41 (.int .i64 ((t4.nm.length : Nat) : Int)) (by kernel_rfl) (by kernel_rfl) fun a hK => ?_
   refine stepP hK 42 (.int .i64 (((t4.nm.length / 20) : Nat) : Int)) (by kernel_rfl) (run_quoN (i := t4.nm.length) (j := 20) rfl rfl rfl (by decide) (by omega)) fun a hK => ?_
   refine stepP hK 43 (.int .i64 (v - (((t4.nm.length / 20) : Nat) : Int))) (by kernel_rfl) (run_subZ rfl rfl rfl (by omega) (by omega)) fun a hK => ?_
   refine stepM hK 5 43 (by kernel_rfl) (.inr rfl) rfl fun a hK => ?_
   refine region_done hK [(5, .int .i64 (v - (((t4.nm.length / 20) : Nat) : Int))), (31, .bool true), (4, .bool false), (2, .pointer (some ⟨b1, 0, none⟩)), (0, .agg #[.slice p.A1 p.ds.length p.c1, .slice p.A2 p.ts.length p.c2]), (1, .int .i64 n), (6, .int .i64 ((i : Nat) : Int))] ⟨rfl, rfl, rfl, rfl, rfl, rfl, rfl, trivial⟩ fun a hK => ?_
   refine region_go (lst := [0, 1, 2]) (by kernel_rfl) ?_
   refine stepM hK 32 6 (by kernel_rfl) (.inl rfl) rfl fun a hK => ?_
   refine stepP hK 33 (.int .i64 (((i + 1) : Nat) : Int)) (by kernel_rfl) (run_addN (i := i) (j := 1) rfl rfl rfl (by omega)) fun a hK => ?_
   refine stepM hK 6 33 (by kernel_rfl) (.inr rfl) rfl fun a hK => ?_
   refine region_done hK [(6, .int .i64 (((i + 1) : Nat) : Int)), (5, .int .i64 (v - (((t4.nm.length / 20) : Nat) : Int))), (31, .bool true), (4, .bool false), (2, .pointer (some ⟨b1, 0, none⟩)), (0, .agg #[.slice p.A1 p.ds.length p.c1, .slice p.A2 p.ts.length p.c2]), (1, .int .i64 n)] ⟨rfl, rfl, rfl, rfl, rfl, rfl, rfl, trivial⟩ fun a hK => ?_
   have hRn : (i + 1) ≤ p.ds.length ∧ dcsHf (p.ds.drop (i + 1)) ((v - (((t4.nm.length / 20) : Nat) : Int))) = dcsHf p.ds (n - min (n + 1) ((p.ds.length : Nat) : Int) - min (n + 1) ((p.ts.length : Nat) : Int)) ∧ ((v - (((t4.nm.length / 20) : Nat) : Int))) ≤ 1000000 := ⟨by omega, by rw [← dcsHf_step ht4 (by omega)]; exact hR.2.1, by omega⟩
   have hmn : p.ds.length - (i + 1) < p.ds.length - i := by omega
   exact ⟨(i + 1, (v - (((t4.nm.length / 20) : Nat) : Int))), hK.sub ⟨rfl, rfl, rfl, rfl, rfl, rfl, trivial⟩, hM, hRn, hmn⟩
  ·refine stepP hK 30 (.bool false) (by kernel_rfl) (okBool (b := (decide ((0 : Int) ≤ v))) (by kernel_rfl) (decide_eq_false h3)) fun a hK => ?_
   refine stepP hK 31 (.bool false) (by kernel_rfl) (by kernel_rfl) fun a hK => ?_
   refine region_done hK [(31, .bool false), (4, .bool false), (2, .pointer (some ⟨b1, 0, none⟩)), (0, .agg #[.slice p.A1 p.ds.length p.c1, .slice p.A2 p.ts.length p.c2]), (1, .int .i64 n), (6, .int .i64 ((i : Nat) : Int)), (5, .int .i64 v)] ⟨rfl, rfl, rfl, rfl, rfl, rfl, rfl, trivial⟩ fun a hK => ?_
   refine wp_cond_false (hK.get rfl) ?_
   refine wp_exit (exit_then (exit_then (exit_here 0 ?_)))
   refine wp_seq ?_
   refine wp_seq ?_
   refine region_go (lst := [0]) (by kernel_rfl) ?_
   refine stepP hK 7 (.int .i64 0) (by kernel_rfl) (by kernel_rfl) fun a hK => ?_
   refine region_done hK [(7, .int .i64 0), (31, .bool false), (4, .bool false), (2, .pointer (some ⟨b1, 0, none⟩)), (0, .agg #[.slice p.A1 p.ds.length p.c1, .slice p.A2 p.ts.length p.c2]), (1, .int .i64 n), (6, .int .i64 ((i : Nat) : Int)), (5, .int .i64 v)] ⟨rfl, rfl, rfl, rfl, rfl, rfl, rfl, rfl, trivial⟩ fun a hK => ?_
   refine wp_block ?_
   have hv : v = dcsHf p.ds (n - min (n + 1) ((p.ds.length : Nat) : Int) - min (n + 1) ((p.ts.length : Nat) : Int)) := by rw [← hR.2.1]; first | rw [dcsHf_neg _ (by omega)] | (rw [List.drop_of_length_le (by omega), dcsHf])
   refine wp_loopX (fun x : Nat × Int => [(31, .bool false), (4, .bool false), (2, .pointer (some ⟨b1, 0, none⟩)), (0, .agg #[.slice p.A1 p.ds.length p.c1, .slice p.A2 p.ts.length p.c2]), (1, .int .i64 n), (6, .int .i64 ((i : Nat) : Int)), (7, .int .i64 ((x.1 : Nat) : Int)), (5, .int .i64 x.2)]) (fun x : Nat × Int => [.row b1 25 [.slice p.A1 p.ds.length p.c1, .slice p.A2 p.ts.length p.c2]]) (fun x : Nat × Int => x.1 ≤ p.ts.length ∧ thsHf (p.ts.drop x.1) x.2 = thsHf p.ts v ∧ x.2 ≤ 1000000) (fun x : Nat × Int => p.ts.length - x.1) (0, v) (hK.sub ⟨rfl, rfl, rfl, rfl, rfl, rfl, rfl, rfl, trivial⟩) hM ⟨Nat.zero_le _, rfl, hR.2.2⟩ ?_
   rintro ⟨j, u⟩ a w hK hM hR
   replace hK : Knows a 64 [(31, .bool false), (4, .bool false), (2, .pointer (some ⟨b1, 0, none⟩)), (0, .agg #[.slice p.A1 p.ds.length p.c1, .slice p.A2 p.ts.length p.c2]), (1, .int .i64 n), (6, .int .i64 ((i : Nat) : Int)), (7, .int .i64 ((j : Nat) : Int)), (5, .int .i64 u)] := hK
   replace hM : Mem w0 w [.row b1 25 [.slice p.A1 p.ds.length p.c1, .slice p.A2 p.ts.length p.c2]] := hM
   replace hR : j ≤ p.ts.length ∧ thsHf (p.ts.drop j) u = thsHf p.ts v ∧ u ≤ 1000000 := hR
   refine wp_seq ?_
   refine wp_seq ?_
   refine region_go (lst := [0, 1, 2, 3, 4, 5, 6, 7, 8]) (by kernel_rfl) ?_
   refine stepM hK 44 7 (by kernel_rfl) (.inl rfl) rfl fun a hK => ?_
   refine stepP hK 45 (.pointer (some ⟨b1, 1, none⟩)) (by kernel_rfl) (by kernel_rfl) fun a hK => ?_
   refine stepLoad hK 46 (.slice p.A2 p.ts.length p.c2) (by kernel_rfl) rfl rfl ((hM.row 0 rfl).cells 1 1) (by kernel_rfl) fun a hK => ?_
   refine stepP hK 47 (.int .i64 ((p.ts.length : Nat) : Int)) (by kernel_rfl) (by kernel_rfl) fun a hK => ?_
   by_cases h5 : (((j : Nat) : Int) : Int) < ((p.ts.length : Nat) : Int)
   ·refine stepP hK 48 (.bool true) (by kernel_rfl) (okBool (b := (decide ((((j : Nat) : Int) : Int) < ((p.ts.length : Nat) : Int)))) (by kernel_rfl) (decide_eq_true h5)) fun a hK => ?_
    refine stepM hK 49 48 (by kernel_rfl) (.inl rfl) rfl fun a hK => ?_
    refine stepM hK 50 5 (by kernel_rfl) (.inl rfl) rfl fun a hK => ?_
    by_cases h6 : (0 : Int) ≤ u
    ·refine stepP hK 51 (.bool true) (by kernel_rfl) (okBool (b := (decide ((0 : Int) ≤ u))) (by kernel_rfl) (decide_eq_true h6)) fun a hK => ?_
     refine stepP hK 52 (.bool true) (by kernel_rfl) (by kernel_rfl) fun a hK => ?_
     refine region_done hK [(52, .bool true), (31, .bool false), (4, .bool false), (2, .pointer (some ⟨b1, 0, none⟩)), (0, .agg #[.slice p.A1 p.ds.length p.c1, .slice p.A2 p.ts.length p.c2]), (1, .int .i64 n), (6, .int .i64 ((i : Nat) : Int)), (7, .int .i64 ((j : Nat) : Int)), (5, .int .i64 u)] ⟨rfl, rfl, rfl, rfl, rfl, rfl, rfl, rfl, rfl, trivial⟩ fun a hK => ?_
     refine wp_cond_true (hK.get rfl) ?_
     refine wp_skip ?_
     refine wp_seq ?_
     refine wp_block ?_
     refine region_go (lst := [0, 1, 2, 3, 4, 5, 6, 7]) (by kernel_rfl) ?_
     refine stepP hK 55 (.pointer (some ⟨b1, 1, none⟩)) (by kernel_rfl) (by kernel_rfl) fun a hK => ?_
     refine stepLoad hK 56 (.slice p.A2 p.ts.length p.c2) (by kernel_rfl) rfl rfl ((hM.row 0 rfl).cells 1 1) (by kernel_rfl) fun a hK => ?_
     refine stepM hK 57 7 (by kernel_rfl) (.inl rfl) rfl fun a hK => ?_
     obtain ⟨t7, ht7⟩ : ∃ t, p.ts[(j : Nat)]? = some t := ⟨_, List.getElem?_eq_getElem (by omega)⟩
     obtain ⟨⟨at7, At7, ct7⟩, et7⟩ := hp.threads _ _ ht7; have nt7 := et7.2
     refine stepP hK 58 (.pointer (some (at7.add (j * 1)))) (by kernel_rfl) (run_ixA (k := j) (s := 1) rfl rfl At7 rfl Tryd.underlying23 (by kernel_rfl) (by omega)) fun a hK => ?_
     refine stepLoad hK 59 (.slice t7.A t7.l.length t7.c) (by kernel_rfl) rfl rfl ((ct7.on hM.below)) (by kernel_rfl) fun a hK => ?_
     refine stepM hK 60 5 (by kernel_rfl) (.inl rfl) rfl fun a hK => ?_
     refine stepRet hK hM 61 #[.slice t7.A t7.l.length t7.c, .int .i64 u] (.int .i64 (smsHf t7.l u)) (by kernel_rfl) (run_callE en_cantileverkit_hefts rfl rfl (by kernel_rfl)) (kit_hefts t7.l _ _ u _ (et7.1.on hM.below) (by omega) (by omega) (by omega)) fun a w hK hM => ?_
     refine stepM hK 5 61 (by kernel_rfl) (.inr rfl) rfl fun a hK => ?_
     refine region_done hK [(5, .int .i64 (smsHf t7.l u)), (52, .bool true), (31, .bool false), (4, .bool false), (2, .pointer (some ⟨b1, 0, none⟩)), (0, .agg #[.slice p.A1 p.ds.length p.c1, .slice p.A2 p.ts.length p.c2]), (1, .int .i64 n), (6, .int .i64 ((i : Nat) : Int)), (7, .int .i64 ((j : Nat) : Int))] ⟨rfl, rfl, rfl, rfl, rfl, rfl, rfl, rfl, rfl, trivial⟩ fun a hK => ?_
     refine region_go (lst := [0, 1, 2]) (by kernel_rfl) ?_
     refine stepM hK 53 7 (by kernel_rfl) (.inl rfl) rfl fun a hK => ?_
     refine stepP hK 54 (.int .i64 (((j + 1) : Nat) : Int)) (by kernel_rfl) (run_addN (i := j) (j := 1) rfl rfl rfl (by omega)) fun a hK => ?_
     refine stepM hK 7 54 (by kernel_rfl) (.inr rfl) rfl fun a hK => ?_
     refine region_done hK [(7, .int .i64 (((j + 1) : Nat) : Int)), (5, .int .i64 (smsHf t7.l u)), (52, .bool true), (31, .bool false), (4, .bool false), (2, .pointer (some ⟨b1, 0, none⟩)), (0, .agg #[.slice p.A1 p.ds.length p.c1, .slice p.A2 p.ts.length p.c2]), (1, .int .i64 n), (6, .int .i64 ((i : Nat) : Int))] ⟨rfl, rfl, rfl, rfl, rfl, rfl, rfl, rfl, rfl, trivial⟩ fun a hK => ?_
     have hRn : (j + 1) ≤ p.ts.length ∧ thsHf (p.ts.drop (j + 1)) ((smsHf t7.l u)) = thsHf p.ts v ∧ ((smsHf t7.l u)) ≤ 1000000 := ⟨by omega, by rw [← thsHf_step ht7 (by omega)]; exact hR.2.1, by have h1 := smsHf_sz t7.l u; omega⟩
     have hmn : p.ts.length - (j + 1) < p.ts.length - j := by omega
     exact ⟨(j + 1, (smsHf t7.l u)), hK.sub ⟨rfl, rfl, rfl, rfl, rfl, rfl, rfl, rfl, trivial⟩, hM, hRn, hmn⟩
    ·refine stepP hK 51 (.bool false) (by kernel_rfl) (okBool (b := (decide ((0 : Int) ≤ u))) (by kernel_rfl) (decide_eq_false h6)) fun a hK => ?_
     refine stepP hK 52 (.bool false) (by kernel_rfl) (by kernel_rfl) fun a hK => ?_
     refine region_done hK [(52, .bool false), (31, .bool false), (4, .bool false), (2, .pointer (some ⟨b1, 0, none⟩)), (0, .agg #[.slice p.A1 p.ds.length p.c1, .slice p.A2 p.ts.length p.c2]), (1, .int .i64 n), (6, .int .i64 ((i : Nat) : Int)), (7, .int .i64 ((j : Nat) : Int)), (5, .int .i64 u)] ⟨rfl, rfl, rfl, rfl, rfl, rfl, rfl, rfl, rfl, trivial⟩ fun a hK => ?_
     refine wp_cond_false (hK.get rfl) ?_
     refine wp_exit (exit_then (exit_then (exit_here 2 ?_)))
     refine wp_seq ?_
     refine region_go (lst := [0, 1, 2]) (by kernel_rfl) ?_
     refine stepM hK 62 5 (by kernel_rfl) (.inl rfl) rfl fun a hK => ?_
     refine stepP hK 63 (.bool false) (by kernel_rfl) (okBool (b := (decide ((0 : Int) ≤ u))) (by kernel_rfl) (decide_eq_false h6)) fun a hK => ?_
     refine stepM hK 4 63 (by kernel_rfl) (.inr rfl) rfl fun a hK => ?_
     refine region_done hK [(4, .bool false), (52, .bool false), (31, .bool false), (2, .pointer (some ⟨b1, 0, none⟩)), (0, .agg #[.slice p.A1 p.ds.length p.c1, .slice p.A2 p.ts.length p.c2]), (1, .int .i64 n), (6, .int .i64 ((i : Nat) : Int)), (7, .int .i64 ((j : Nat) : Int)), (5, .int .i64 u)] ⟨rfl, rfl, rfl, rfl, rfl, rfl, rfl, rfl, rfl, trivial⟩ fun a hK => ?_
     refine wp_ret ?_
     exact ret_t hK rfl (u := (.bool false)) rfl (⟨by have hu : pgHf p n = u := (by unfold pgHf; rw [← hv, ← hR.2.1]; (first | rw [thsHf_neg _ (by omega)] | rw [List.drop_of_length_le (by omega), thsHf])); rw [hu, (decide_eq_false h6)], hM.below⟩)
   ·refine stepP hK 48 (.bool false) (by kernel_rfl) (okBool (b := (decide ((((j : Nat) : Int) : Int) < ((p.ts.length : Nat) : Int)))) (by kernel_rfl) (decide_eq_false h5)) fun a hK => ?_
    refine stepM hK 49 48 (by kernel_rfl) (.inl rfl) rfl fun a hK => ?_
    refine stepN hK 50 (by kernel_rfl) fun a hK => ?_
    refine stepN hK 51 (by kernel_rfl) fun a hK => ?_
    refine stepP hK 52 (.bool false) (by kernel_rfl) (by kernel_rfl) fun a hK => ?_
    refine region_done hK [(52, .bool false), (31, .bool false), (4, .bool false), (2, .pointer (some ⟨b1, 0, none⟩)), (0, .agg #[.slice p.A1 p.ds.length p.c1, .slice p.A2 p.ts.length p.c2]), (1, .int .i64 n), (6, .int .i64 ((i : Nat) : Int)), (7, .int .i64 ((j : Nat) : Int)), (5, .int .i64 u)] ⟨rfl, rfl, rfl, rfl, rfl, rfl, rfl, rfl, rfl, trivial⟩ fun a hK => ?_
    refine wp_cond_false (hK.get rfl) ?_
    refine wp_exit (exit_then (exit_then (exit_here 2 ?_)))
    refine wp_seq ?_
    refine region_go (lst := [0, 1, 2]) (by kernel_rfl) ?_
    refine stepM hK 62 5 (by kernel_rfl) (.inl rfl) rfl fun a hK => ?_
    by_cases h8 : (0 : Int) ≤ u
    ·refine stepP hK 63 (.bool true) (by kernel_rfl) (okBool (b := (decide ((0 : Int) ≤ u))) (by kernel_rfl) (decide_eq_true h8)) fun a hK => ?_
     refine stepM hK 4 63 (by kernel_rfl) (.inr rfl) rfl fun a hK => ?_
     refine region_done hK [(4, .bool true), (52, .bool false), (31, .bool false), (2, .pointer (some ⟨b1, 0, none⟩)), (0, .agg #[.slice p.A1 p.ds.length p.c1, .slice p.A2 p.ts.length p.c2]), (1, .int .i64 n), (6, .int .i64 ((i : Nat) : Int)), (7, .int .i64 ((j : Nat) : Int)), (5, .int .i64 u)] ⟨rfl, rfl, rfl, rfl, rfl, rfl, rfl, rfl, rfl, trivial⟩ fun a hK => ?_
     refine wp_ret ?_
     exact ret_t hK rfl (u := (.bool true)) rfl (⟨by have hu : pgHf p n = u := (by unfold pgHf; rw [← hv, ← hR.2.1]; (first | rw [thsHf_neg _ (by omega)] | rw [List.drop_of_length_le (by omega), thsHf])); rw [hu, (decide_eq_true h8)], hM.below⟩)
    ·refine stepP hK 63 (.bool false) (by kernel_rfl) (okBool (b := (decide ((0 : Int) ≤ u))) (by kernel_rfl) (decide_eq_false h8)) fun a hK => ?_
     refine stepM hK 4 63 (by kernel_rfl) (.inr rfl) rfl fun a hK => ?_
     refine region_done hK [(4, .bool false), (52, .bool false), (31, .bool false), (2, .pointer (some ⟨b1, 0, none⟩)), (0, .agg #[.slice p.A1 p.ds.length p.c1, .slice p.A2 p.ts.length p.c2]), (1, .int .i64 n), (6, .int .i64 ((i : Nat) : Int)), (7, .int .i64 ((j : Nat) : Int)), (5, .int .i64 u)] ⟨rfl, rfl, rfl, rfl, rfl, rfl, rfl, rfl, rfl, trivial⟩ fun a hK => ?_
     refine wp_ret ?_
     exact ret_t hK rfl (u := (.bool false)) rfl (⟨by have hu : pgHf p n = u := (by unfold pgHf; rw [← hv, ← hR.2.1]; (first | rw [thsHf_neg _ (by omega)] | rw [List.drop_of_length_le (by omega), thsHf])); rw [hu, (decide_eq_false h8)], hM.below⟩)
 ·refine stepP hK 27 (.bool false) (by kernel_rfl) (okBool (b := (decide ((((i : Nat) : Int) : Int) < ((p.ds.length : Nat) : Int)))) (by kernel_rfl) (decide_eq_false h2)) fun a hK => ?_
  refine stepM hK 28 27 (by kernel_rfl) (.inl rfl) rfl fun a hK => ?_
  refine stepN hK 29 (by kernel_rfl) fun a hK => ?_
  refine stepN hK 30 (by kernel_rfl) fun a hK => ?_
  refine stepP hK 31 (.bool false) (by kernel_rfl) (by kernel_rfl) fun a hK => ?_
  refine region_done hK [(31, .bool false), (4, .bool false), (2, .pointer (some ⟨b1, 0, none⟩)), (0, .agg #[.slice p.A1 p.ds.length p.c1, .slice p.A2 p.ts.length p.c2]), (1, .int .i64 n), (6, .int .i64 ((i : Nat) : Int)), (5, .int .i64 v)] ⟨rfl, rfl, rfl, rfl, rfl, rfl, rfl, trivial⟩ fun a hK => ?_
  refine wp_cond_false (hK.get rfl) ?_
  refine wp_exit (exit_then (exit_then (exit_here 0 ?_)))
  refine wp_seq ?_
  refine wp_seq ?_
  refine region_go (lst := [0]) (by kernel_rfl) ?_
  refine stepP hK 7 (.int .i64 0) (by kernel_rfl) (by kernel_rfl) fun a hK => ?_
  refine region_done hK [(7, .int .i64 0), (31, .bool false), (4, .bool false), (2, .pointer (some ⟨b1, 0, none⟩)), (0, .agg #[.slice p.A1 p.ds.length p.c1, .slice p.A2 p.ts.length p.c2]), (1, .int .i64 n), (6, .int .i64 ((i : Nat) : Int)), (5, .int .i64 v)] ⟨rfl, rfl, rfl, rfl, rfl, rfl, rfl, rfl, trivial⟩ fun a hK => ?_
  refine wp_block ?_
  have hv : v = dcsHf p.ds (n - min (n + 1) ((p.ds.length : Nat) : Int) - min (n + 1) ((p.ts.length : Nat) : Int)) := by rw [← hR.2.1]; first | rw [dcsHf_neg _ (by omega)] | (rw [List.drop_of_length_le (by omega), dcsHf])
  refine wp_loopX (fun x : Nat × Int => [(31, .bool false), (4, .bool false), (2, .pointer (some ⟨b1, 0, none⟩)), (0, .agg #[.slice p.A1 p.ds.length p.c1, .slice p.A2 p.ts.length p.c2]), (1, .int .i64 n), (6, .int .i64 ((i : Nat) : Int)), (7, .int .i64 ((x.1 : Nat) : Int)), (5, .int .i64 x.2)]) (fun x : Nat × Int => [.row b1 25 [.slice p.A1 p.ds.length p.c1, .slice p.A2 p.ts.length p.c2]]) (fun x : Nat × Int => x.1 ≤ p.ts.length ∧ thsHf (p.ts.drop x.1) x.2 = thsHf p.ts v ∧ x.2 ≤ 1000000) (fun x : Nat × Int => p.ts.length - x.1) (0, v) (hK.sub ⟨rfl, rfl, rfl, rfl, rfl, rfl, rfl, rfl, trivial⟩) hM ⟨Nat.zero_le _, rfl, hR.2.2⟩ ?_
  rintro ⟨j, u⟩ a w hK hM hR
  replace hK : Knows a 64 [(31, .bool false), (4, .bool false), (2, .pointer (some ⟨b1, 0, none⟩)), (0, .agg #[.slice p.A1 p.ds.length p.c1, .slice p.A2 p.ts.length p.c2]), (1, .int .i64 n), (6, .int .i64 ((i : Nat) : Int)), (7, .int .i64 ((j : Nat) : Int)), (5, .int .i64 u)] := hK
  replace hM : Mem w0 w [.row b1 25 [.slice p.A1 p.ds.length p.c1, .slice p.A2 p.ts.length p.c2]] := hM
  replace hR : j ≤ p.ts.length ∧ thsHf (p.ts.drop j) u = thsHf p.ts v ∧ u ≤ 1000000 := hR
  refine wp_seq ?_
  refine wp_seq ?_
  refine region_go (lst := [0, 1, 2, 3, 4, 5, 6, 7, 8]) (by kernel_rfl) ?_
  refine stepM hK 44 7 (by kernel_rfl) (.inl rfl) rfl fun a hK => ?_
  refine stepP hK 45 (.pointer (some ⟨b1, 1, none⟩)) (by kernel_rfl) (by kernel_rfl) fun a hK => ?_
  refine stepLoad hK 46 (.slice p.A2 p.ts.length p.c2) (by kernel_rfl) rfl rfl ((hM.row 0 rfl).cells 1 1) (by kernel_rfl) fun a hK => ?_
  refine stepP hK 47 (.int .i64 ((p.ts.length : Nat) : Int)) (by kernel_rfl) (by kernel_rfl) fun a hK => ?_
  by_cases h9 : (((j : Nat) : Int) : Int) < ((p.ts.length : Nat) : Int)
  ·refine stepP hK 48 (.bool true) (by kernel_rfl) (okBool (b := (decide ((((j : Nat) : Int) : Int) < ((p.ts.length : Nat) : Int)))) (by kernel_rfl) (decide_eq_true h9)) fun a hK => ?_
   refine stepM hK 49 48 (by kernel_rfl) (.inl rfl) rfl fun a hK => ?_
   refine stepM hK 50 5 (by kernel_rfl) (.inl rfl) rfl fun a hK => ?_
   by_cases h10 : (0 : Int) ≤ u
   ·refine stepP hK 51 (.bool true) (by kernel_rfl) (okBool (b := (decide ((0 : Int) ≤ u))) (by kernel_rfl) (decide_eq_true h10)) fun a hK => ?_
    refine stepP hK 52 (.bool true) (by kernel_rfl) (by kernel_rfl) fun a hK => ?_
    refine region_done hK [(52, .bool true), (31, .bool false), (4, .bool false), (2, .pointer (some ⟨b1, 0, none⟩)), (0, .agg #[.slice p.A1 p.ds.length p.c1, .slice p.A2 p.ts.length p.c2]), (1, .int .i64 n), (6, .int .i64 ((i : Nat) : Int)), (7, .int .i64 ((j : Nat) : Int)), (5, .int .i64 u)] ⟨rfl, rfl, rfl, rfl, rfl, rfl, rfl, rfl, rfl, trivial⟩ fun a hK => ?_
    refine wp_cond_true (hK.get rfl) ?_
    refine wp_skip ?_
    refine wp_seq ?_
    refine wp_block ?_
    refine region_go (lst := [0, 1, 2, 3, 4, 5, 6, 7]) (by kernel_rfl) ?_
    refine stepP hK 55 (.pointer (some ⟨b1, 1, none⟩)) (by kernel_rfl) (by kernel_rfl) fun a hK => ?_
    refine stepLoad hK 56 (.slice p.A2 p.ts.length p.c2) (by kernel_rfl) rfl rfl ((hM.row 0 rfl).cells 1 1) (by kernel_rfl) fun a hK => ?_
    refine stepM hK 57 7 (by kernel_rfl) (.inl rfl) rfl fun a hK => ?_
    obtain ⟨t11, ht11⟩ : ∃ t, p.ts[(j : Nat)]? = some t := ⟨_, List.getElem?_eq_getElem (by omega)⟩
    obtain ⟨⟨at11, At11, ct11⟩, et11⟩ := hp.threads _ _ ht11; have nt11 := et11.2
    refine stepP hK 58 (.pointer (some (at11.add (j * 1)))) (by kernel_rfl) (run_ixA (k := j) (s := 1) rfl rfl At11 rfl Tryd.underlying23 (by kernel_rfl) (by omega)) fun a hK => ?_
    refine stepLoad hK 59 (.slice t11.A t11.l.length t11.c) (by kernel_rfl) rfl rfl ((ct11.on hM.below)) (by kernel_rfl) fun a hK => ?_
    refine stepM hK 60 5 (by kernel_rfl) (.inl rfl) rfl fun a hK => ?_
    refine stepRet hK hM 61 #[.slice t11.A t11.l.length t11.c, .int .i64 u] (.int .i64 (smsHf t11.l u)) (by kernel_rfl) (run_callE en_cantileverkit_hefts rfl rfl (by kernel_rfl)) (kit_hefts t11.l _ _ u _ (et11.1.on hM.below) (by omega) (by omega) (by omega)) fun a w hK hM => ?_
    refine stepM hK 5 61 (by kernel_rfl) (.inr rfl) rfl fun a hK => ?_
    refine region_done hK [(5, .int .i64 (smsHf t11.l u)), (52, .bool true), (31, .bool false), (4, .bool false), (2, .pointer (some ⟨b1, 0, none⟩)), (0, .agg #[.slice p.A1 p.ds.length p.c1, .slice p.A2 p.ts.length p.c2]), (1, .int .i64 n), (6, .int .i64 ((i : Nat) : Int)), (7, .int .i64 ((j : Nat) : Int))] ⟨rfl, rfl, rfl, rfl, rfl, rfl, rfl, rfl, rfl, trivial⟩ fun a hK => ?_
    refine region_go (lst := [0, 1, 2]) (by kernel_rfl) ?_
    refine stepM hK 53 7 (by kernel_rfl) (.inl rfl) rfl fun a hK => ?_
    refine stepP hK 54 (.int .i64 (((j + 1) : Nat) : Int)) (by kernel_rfl) (run_addN (i := j) (j := 1) rfl rfl rfl (by omega)) fun a hK => ?_
    refine stepM hK 7 54 (by kernel_rfl) (.inr rfl) rfl fun a hK => ?_
    refine region_done hK [(7, .int .i64 (((j + 1) : Nat) : Int)), (5, .int .i64 (smsHf t11.l u)), (52, .bool true), (31, .bool false), (4, .bool false), (2, .pointer (some ⟨b1, 0, none⟩)), (0, .agg #[.slice p.A1 p.ds.length p.c1, .slice p.A2 p.ts.length p.c2]), (1, .int .i64 n), (6, .int .i64 ((i : Nat) : Int))] ⟨rfl, rfl, rfl, rfl, rfl, rfl, rfl, rfl, rfl, trivial⟩ fun a hK => ?_
    have hRn : (j + 1) ≤ p.ts.length ∧ thsHf (p.ts.drop (j + 1)) ((smsHf t11.l u)) = thsHf p.ts v ∧ ((smsHf t11.l u)) ≤ 1000000 := ⟨by omega, by rw [← thsHf_step ht11 (by omega)]; exact hR.2.1, by have h1 := smsHf_sz t11.l u; omega⟩
    have hmn : p.ts.length - (j + 1) < p.ts.length - j := by omega
    exact ⟨(j + 1, (smsHf t11.l u)), hK.sub ⟨rfl, rfl, rfl, rfl, rfl, rfl, rfl, rfl, trivial⟩, hM, hRn, hmn⟩
   ·refine stepP hK 51 (.bool false) (by kernel_rfl) (okBool (b := (decide ((0 : Int) ≤ u))) (by kernel_rfl) (decide_eq_false h10)) fun a hK => ?_
    refine stepP hK 52 (.bool false) (by kernel_rfl) (by kernel_rfl) fun a hK => ?_
    refine region_done hK [(52, .bool false), (31, .bool false), (4, .bool false), (2, .pointer (some ⟨b1, 0, none⟩)), (0, .agg #[.slice p.A1 p.ds.length p.c1, .slice p.A2 p.ts.length p.c2]), (1, .int .i64 n), (6, .int .i64 ((i : Nat) : Int)), (7, .int .i64 ((j : Nat) : Int)), (5, .int .i64 u)] ⟨rfl, rfl, rfl, rfl, rfl, rfl, rfl, rfl, rfl, trivial⟩ fun a hK => ?_
    refine wp_cond_false (hK.get rfl) ?_
    refine wp_exit (exit_then (exit_then (exit_here 2 ?_)))
    refine wp_seq ?_
    refine region_go (lst := [0, 1, 2]) (by kernel_rfl) ?_
    refine stepM hK 62 5 (by kernel_rfl) (.inl rfl) rfl fun a hK => ?_
    refine stepP hK 63 (.bool false) (by kernel_rfl) (okBool (b := (decide ((0 : Int) ≤ u))) (by kernel_rfl) (decide_eq_false h10)) fun a hK => ?_
    refine stepM hK 4 63 (by kernel_rfl) (.inr rfl) rfl fun a hK => ?_
    refine region_done hK [(4, .bool false), (52, .bool false), (31, .bool false), (2, .pointer (some ⟨b1, 0, none⟩)), (0, .agg #[.slice p.A1 p.ds.length p.c1, .slice p.A2 p.ts.length p.c2]), (1, .int .i64 n), (6, .int .i64 ((i : Nat) : Int)), (7, .int .i64 ((j : Nat) : Int)), (5, .int .i64 u)] ⟨rfl, rfl, rfl, rfl, rfl, rfl, rfl, rfl, rfl, trivial⟩ fun a hK => ?_
    refine wp_ret ?_
    exact ret_t hK rfl (u := (.bool false)) rfl (⟨by have hu : pgHf p n = u := (by unfold pgHf; rw [← hv, ← hR.2.1]; (first | rw [thsHf_neg _ (by omega)] | rw [List.drop_of_length_le (by omega), thsHf])); rw [hu, (decide_eq_false h10)], hM.below⟩)
  ·refine stepP hK 48 (.bool false) (by kernel_rfl) (okBool (b := (decide ((((j : Nat) : Int) : Int) < ((p.ts.length : Nat) : Int)))) (by kernel_rfl) (decide_eq_false h9)) fun a hK => ?_
   refine stepM hK 49 48 (by kernel_rfl) (.inl rfl) rfl fun a hK => ?_
   refine stepN hK 50 (by kernel_rfl) fun a hK => ?_
   refine stepN hK 51 (by kernel_rfl) fun a hK => ?_
   refine stepP hK 52 (.bool false) (by kernel_rfl) (by kernel_rfl) fun a hK => ?_
   refine region_done hK [(52, .bool false), (31, .bool false), (4, .bool false), (2, .pointer (some ⟨b1, 0, none⟩)), (0, .agg #[.slice p.A1 p.ds.length p.c1, .slice p.A2 p.ts.length p.c2]), (1, .int .i64 n), (6, .int .i64 ((i : Nat) : Int)), (7, .int .i64 ((j : Nat) : Int)), (5, .int .i64 u)] ⟨rfl, rfl, rfl, rfl, rfl, rfl, rfl, rfl, rfl, trivial⟩ fun a hK => ?_
   refine wp_cond_false (hK.get rfl) ?_
   refine wp_exit (exit_then (exit_then (exit_here 2 ?_)))
   refine wp_seq ?_
   refine region_go (lst := [0, 1, 2]) (by kernel_rfl) ?_
   refine stepM hK 62 5 (by kernel_rfl) (.inl rfl) rfl fun a hK => ?_
   by_cases h12 : (0 : Int) ≤ u
   ·refine stepP hK 63 (.bool true) (by kernel_rfl) (okBool (b := (decide ((0 : Int) ≤ u))) (by kernel_rfl) (decide_eq_true h12)) fun a hK => ?_
    refine stepM hK 4 63 (by kernel_rfl) (.inr rfl) rfl fun a hK => ?_
    refine region_done hK [(4, .bool true), (52, .bool false), (31, .bool false), (2, .pointer (some ⟨b1, 0, none⟩)), (0, .agg #[.slice p.A1 p.ds.length p.c1, .slice p.A2 p.ts.length p.c2]), (1, .int .i64 n), (6, .int .i64 ((i : Nat) : Int)), (7, .int .i64 ((j : Nat) : Int)), (5, .int .i64 u)] ⟨rfl, rfl, rfl, rfl, rfl, rfl, rfl, rfl, rfl, trivial⟩ fun a hK => ?_
    refine wp_ret ?_
    exact ret_t hK rfl (u := (.bool true)) rfl (⟨by have hu : pgHf p n = u := (by unfold pgHf; rw [← hv, ← hR.2.1]; (first | rw [thsHf_neg _ (by omega)] | rw [List.drop_of_length_le (by omega), thsHf])); rw [hu, (decide_eq_true h12)], hM.below⟩)
   ·refine stepP hK 63 (.bool false) (by kernel_rfl) (okBool (b := (decide ((0 : Int) ≤ u))) (by kernel_rfl) (decide_eq_false h12)) fun a hK => ?_
    refine stepM hK 4 63 (by kernel_rfl) (.inr rfl) rfl fun a hK => ?_
    refine region_done hK [(4, .bool false), (52, .bool false), (31, .bool false), (2, .pointer (some ⟨b1, 0, none⟩)), (0, .agg #[.slice p.A1 p.ds.length p.c1, .slice p.A2 p.ts.length p.c2]), (1, .int .i64 n), (6, .int .i64 ((i : Nat) : Int)), (7, .int .i64 ((j : Nat) : Int)), (5, .int .i64 u)] ⟨rfl, rfl, rfl, rfl, rfl, rfl, rfl, rfl, rfl, trivial⟩ fun a hK => ?_
    refine wp_ret ?_
    exact ret_t hK rfl (u := (.bool false)) rfl (⟨by have hu : pgHf p n = u := (by unfold pgHf; rw [← hv, ← hR.2.1]; (first | rw [thsHf_neg _ (by omega)] | rw [List.drop_of_length_le (by omega), thsHf])); rw [hu, (decide_eq_false h12)], hM.below⟩)
end Go.Proofs.YtmfiiapmkidmkaaDoor
