/-
 Which programs may be, as the document says.
-/
import Derived.Test.YtmfiiapmkidmkaaDoorAsI
namespace Go.Proofs.YtmfiiapmkidmkaaDoor
open Go Go.RowKit

theorem en_cantileverref03_Check : Enters Tryd.prog 14 := enters_of Tryd.func14 (by kernel_rfl) rfl
theorem en_cantileverref03_CheckExpr : Enters Tryd.prog 15 := enters_of Tryd.func15 (by kernel_rfl) rfl
set_option maxRecDepth 100000 in
set_option maxHeartbeats 4000000 in
theorem ref_Check (p : Pg) (w0 : World) (hp : PgAt w0 p) (hsz : thsSz p.ts ≤ 1000000) (hsh : pgSh p = true) : Calls Tryd.prog 14 #[.agg #[.slice p.A1 p.ds.length p.c1, .slice p.A2 p.ts.length p.c2]] w0 (Ret w0 (.int .i64 (chkP p))) := by
 have hpl := hp.len
 obtain ⟨hshD, hshT⟩ := pg_sh hsh
 refine calls_K (args := [.agg #[.slice p.A1 p.ds.length p.c1, .slice p.A2 p.ts.length p.c2]]) (n := 51) (env := [(0, .agg #[.slice p.A1 p.ds.length p.c1, .slice p.A2 p.ts.length p.c2])]) Tryd.func14 rfl rfl rfl ⟨rfl, trivial⟩ fun a w hK hM => ?_
 refine wp_seq ?_
 refine region_go (lst := [0, 1]) (by kernel_rfl) ?_
 refine stepAlloc hK hM 1 25 [.slice p.A1 p.ds.length p.c1, .slice p.A2 p.ts.length p.c2] (fun b => .pointer (some ⟨b, 0, none⟩)) (by kernel_rfl) (by kernel_rfl) fun b1 a w hK hM => ?_
 refine stepP hK 2 (.int .i64 0) (by kernel_rfl) (by kernel_rfl) fun a hK => ?_
 refine region_done hK [(2, .int .i64 0), (1, .pointer (some ⟨b1, 0, none⟩)), (0, .agg #[.slice p.A1 p.ds.length p.c1, .slice p.A2 p.ts.length p.c2])] ⟨rfl, rfl, rfl, trivial⟩ fun a hK => ?_
 refine wp_seq ?_
 refine wp_seq ?_
 refine region_go (lst := [0, 1, 2, 3, 4, 5, 6, 7]) (by kernel_rfl) ?_
 refine stepLoad hK 5 (.agg #[.slice p.A1 p.ds.length p.c1, .slice p.A2 p.ts.length p.c2]) (by kernel_rfl) rfl rfl ((hM.row 0 rfl).cells 0 2) (by kernel_rfl) fun a hK => ?_
 refine stepRet hK hM 6 #[.agg #[.slice p.A1 p.ds.length p.c1, .slice p.A2 p.ts.length p.c2]] (.int .i64 (((thsSz p.ts) : Nat) : Int)) (by kernel_rfl) (run_callE en_cantileverref03_Size rfl rfl (by kernel_rfl)) (ref_Size p _ (hp.on hM.below) hsz) fun a w hK hM => ?_
 by_cases h2 : (2000 : Int) < (((thsSz p.ts) : Nat) : Int)
 ·refine stepP hK 7 (.bool true) (by kernel_rfl) (okBool (b := (decide ((2000 : Int) < (((thsSz p.ts) : Nat) : Int)))) (by kernel_rfl) (decide_eq_true h2)) fun a hK => ?_
  refine stepM hK 8 7 (by kernel_rfl) (.inl rfl) rfl fun a hK => ?_
  refine stepN hK 9 (by kernel_rfl) fun a hK => ?_
  refine stepN hK 10 (by kernel_rfl) fun a hK => ?_
  refine stepN hK 11 (by kernel_rfl) fun a hK => ?_
  refine stepP hK 12 (.bool true) (by kernel_rfl) (by kernel_rfl) fun a hK => ?_
  refine region_done hK [(12, .bool true), (2, .int .i64 0), (1, .pointer (some ⟨b1, 0, none⟩)), (0, .agg #[.slice p.A1 p.ds.length p.c1, .slice p.A2 p.ts.length p.c2])] ⟨rfl, rfl, rfl, rfl, trivial⟩ fun a hK => ?_
  refine wp_cond_true (hK.get rfl) ?_
  refine wp_seq ?_
  refine region_go (lst := [0]) (by kernel_rfl) ?_
  refine stepP hK 2 (.int .i64 3) (by kernel_rfl) (by kernel_rfl) fun a hK => ?_
  refine region_done hK [(2, .int .i64 3), (12, .bool true), (1, .pointer (some ⟨b1, 0, none⟩)), (0, .agg #[.slice p.A1 p.ds.length p.c1, .slice p.A2 p.ts.length p.c2])] ⟨rfl, rfl, rfl, rfl, trivial⟩ fun a hK => ?_
  refine wp_ret ?_
  exact ret_t hK rfl (u := (.int .i64 3)) rfl (⟨by unfold chkP; rw [if_pos (by rw [(decide_eq_true h2)]; rfl)], hM.below⟩)
 ·refine stepP hK 7 (.bool false) (by kernel_rfl) (okBool (b := (decide ((2000 : Int) < (((thsSz p.ts) : Nat) : Int)))) (by kernel_rfl) (decide_eq_false h2)) fun a hK => ?_
  refine stepM hK 8 7 (by kernel_rfl) (.inl rfl) rfl fun a hK => ?_
  refine stepLoad hK 9 (.agg #[.slice p.A1 p.ds.length p.c1, .slice p.A2 p.ts.length p.c2]) (by kernel_rfl) rfl rfl ((hM.row 0 rfl).cells 0 2) (by kernel_rfl) fun a hK => ?_
  refine stepRet hK hM 10 #[.agg #[.slice p.A1 p.ds.length p.c1, .slice p.A2 p.ts.length p.c2]] (.int .i64 (((thsDp p.ts) : Nat) : Int)) (by kernel_rfl) (run_callE en_cantileverref03_Deep rfl rfl (by kernel_rfl)) (ref_Deep p _ (hp.on hM.below) hsz) fun a w hK hM => ?_
  by_cases h3 : (32 : Int) < (((thsDp p.ts) : Nat) : Int)
  ·refine stepP hK 11 (.bool true) (by kernel_rfl) (okBool (b := (decide ((32 : Int) < (((thsDp p.ts) : Nat) : Int)))) (by kernel_rfl) (decide_eq_true h3)) fun a hK => ?_
   refine stepP hK 12 (.bool true) (by kernel_rfl) (by kernel_rfl) fun a hK => ?_
   refine region_done hK [(12, .bool true), (2, .int .i64 0), (1, .pointer (some ⟨b1, 0, none⟩)), (0, .agg #[.slice p.A1 p.ds.length p.c1, .slice p.A2 p.ts.length p.c2])] ⟨rfl, rfl, rfl, rfl, trivial⟩ fun a hK => ?_
   refine wp_cond_true (hK.get rfl) ?_
   refine wp_seq ?_
   refine region_go (lst := [0]) (by kernel_rfl) ?_
   refine stepP hK 2 (.int .i64 3) (by kernel_rfl) (by kernel_rfl) fun a hK => ?_
   refine region_done hK [(2, .int .i64 3), (12, .bool true), (1, .pointer (some ⟨b1, 0, none⟩)), (0, .agg #[.slice p.A1 p.ds.length p.c1, .slice p.A2 p.ts.length p.c2])] ⟨rfl, rfl, rfl, rfl, trivial⟩ fun a hK => ?_
   refine wp_ret ?_
   exact ret_t hK rfl (u := (.int .i64 3)) rfl (⟨by unfold chkP; rw [if_pos (by rw [(decide_eq_false h2), (decide_eq_true h3)]; rfl)], hM.below⟩)
  ·refine stepP hK 11 (.bool false) (by kernel_rfl) (okBool (b := (decide ((32 : Int) < (((thsDp p.ts) : Nat) : Int)))) (by kernel_rfl) (decide_eq_false h3)) fun a hK => ?_
   refine stepP hK 12 (.bool false) (by kernel_rfl) (by kernel_rfl) fun a hK => ?_
   refine region_done hK [(12, .bool false), (2, .int .i64 0), (1, .pointer (some ⟨b1, 0, none⟩)), (0, .agg #[.slice p.A1 p.ds.length p.c1, .slice p.A2 p.ts.length p.c2])] ⟨rfl, rfl, rfl, rfl, trivial⟩ fun a hK => ?_
   refine wp_cond_false (hK.get rfl) ?_
   refine wp_skip ?_
   refine wp_seq ?_
   refine wp_seq ?_
   refine region_go (lst := [0]) (by kernel_rfl) ?_
   refine stepP hK 3 (.int .i64 0) (by kernel_rfl) (by kernel_rfl) fun a hK => ?_
   refine region_done hK [(3, .int .i64 0), (12, .bool false), (2, .int .i64 0), (1, .pointer (some ⟨b1, 0, none⟩)), (0, .agg #[.slice p.A1 p.ds.length p.c1, .slice p.A2 p.ts.length p.c2])] ⟨rfl, rfl, rfl, rfl, rfl, trivial⟩ fun a hK => ?_
   refine wp_block ?_
   have hbig : (decide ((2000 : Int) < ((thsSz p.ts : Nat) : Int)) || decide ((32 : Int) < ((thsDp p.ts : Nat) : Int))) = false := by rw [(decide_eq_false h2), (decide_eq_false h3)]; rfl
   refine wp_loopX (fun x : Nat => [(12, .bool false), (2, .int .i64 0), (1, .pointer (some ⟨b1, 0, none⟩)), (0, .agg #[.slice p.A1 p.ds.length p.c1, .slice p.A2 p.ts.length p.c2]), (3, .int .i64 ((x : Nat) : Int))]) (fun x : Nat => [.row b1 25 [.slice p.A1 p.ds.length p.c1, .slice p.A2 p.ts.length p.c2]]) (fun x : Nat => x ≤ p.ds.length ∧ dcsOk (p.ds.drop x) = dcsOk p.ds) (fun x : Nat => p.ds.length - x) 0 (hK.sub ⟨rfl, rfl, rfl, rfl, rfl, trivial⟩) hM ⟨Nat.zero_le _, rfl⟩ ?_
   rintro i a w hK hM hR
   replace hK : Knows a 51 [(12, .bool false), (2, .int .i64 0), (1, .pointer (some ⟨b1, 0, none⟩)), (0, .agg #[.slice p.A1 p.ds.length p.c1, .slice p.A2 p.ts.length p.c2]), (3, .int .i64 ((i : Nat) : Int))] := hK
   replace hM : Mem w0 w [.row b1 25 [.slice p.A1 p.ds.length p.c1, .slice p.A2 p.ts.length p.c2]] := hM
   replace hR : i ≤ p.ds.length ∧ dcsOk (p.ds.drop i) = dcsOk p.ds := hR
   refine wp_seq ?_
   refine wp_seq ?_
   refine region_go (lst := [0, 1, 2, 3, 4]) (by kernel_rfl) ?_
   refine stepM hK 13 3 (by kernel_rfl) (.inl rfl) rfl fun a hK => ?_
   refine stepP hK 14 (.pointer (some ⟨b1, 0, none⟩)) (by kernel_rfl) (by kernel_rfl) fun a hK => ?_
   refine stepLoad hK 15 (.slice p.A1 p.ds.length p.c1) (by kernel_rfl) rfl rfl ((hM.row 0 rfl).cells 0 1) (by kernel_rfl) fun a hK => ?_
   refine stepP hK 16 (.int .i64 ((p.ds.length : Nat) : Int)) (by kernel_rfl) (by kernel_rfl) fun a hK => ?_
   by_cases h4 : (((i : Nat) : Int) : Int) < ((p.ds.length : Nat) : Int)
   ·refine stepP hK 17 (.bool true) (by kernel_rfl) (okBool (b := (decide ((((i : Nat) : Int) : Int) < ((p.ds.length : Nat) : Int)))) (by kernel_rfl) (decide_eq_true h4)) fun a hK => ?_
    refine region_done hK [(17, .bool true), (12, .bool false), (2, .int .i64 0), (1, .pointer (some ⟨b1, 0, none⟩)), (0, .agg #[.slice p.A1 p.ds.length p.c1, .slice p.A2 p.ts.length p.c2]), (3, .int .i64 ((i : Nat) : Int))] ⟨rfl, rfl, rfl, rfl, rfl, rfl, trivial⟩ fun a hK => ?_
    refine wp_cond_true (hK.get rfl) ?_
    refine wp_skip ?_
    refine wp_seq ?_
    refine wp_block ?_
    refine wp_seq ?_
    refine region_go (lst := [0, 1, 2, 3, 4, 5, 6, 7, 8, 9, 10, 11, 12, 13, 14, 15, 16]) (by kernel_rfl) ?_
    refine stepP hK 20 (.pointer (some ⟨b1, 0, none⟩)) (by kernel_rfl) (by kernel_rfl) fun a hK => ?_
    refine stepLoad hK 21 (.slice p.A1 p.ds.length p.c1) (by kernel_rfl) rfl rfl ((hM.row 0 rfl).cells 0 1) (by kernel_rfl) fun a hK => ?_
    refine stepM hK 22 3 (by kernel_rfl) (.inl rfl) rfl fun a hK => ?_
    obtain ⟨t5, ht5⟩ : ∃ t, p.ds[(i : Nat)]? = some t := ⟨_, List.getElem?_eq_getElem (by omega)⟩
    obtain ⟨⟨at5, At5, ct5⟩, et5⟩ := hp.decls _ _ ht5; have nt5 := et5
    refine stepP hK 23 (.pointer (some (at5.add (i * 3)))) (by kernel_rfl) (run_ixA (k := i) (s := 3) rfl rfl At5 rfl Tryd.underlying22 (by kernel_rfl) (by omega)) fun a hK => ?_
    refine stepP hK 24 (.pointer (some (at5.add (i * 3)))) (by kernel_rfl) (by kernel_rfl) fun a hK => ?_
    refine stepLoad hK 25 (Str t5.nm) (by kernel_rfl) rfl rfl (((ct5.on hM.below)).addZ 1) (by kernel_rfl) fun a hK => ?_
    rcases Bool.eq_false_or_eq_true (isWd t5.nm) with h6 | h6
    ·refine stepRet hK hM 26 #[Str t5.nm] (.bool true) (by kernel_rfl) (run_callE en_cantileverref03_Word rfl rfl (by kernel_rfl)) (ret_eq (ref_Wd t5.nm _ (by have h1 := hshD _ (List.mem_of_getElem? ht5); omega)) (congrArg Value.bool h6)) fun a w hK hM => ?_
     refine stepP hK 27 (.bool false) (by kernel_rfl) (by kernel_rfl) fun a hK => ?_
     refine stepM hK 28 27 (by kernel_rfl) (.inl rfl) rfl fun a hK => ?_
     refine stepP hK 29 (.pointer (some ⟨b1, 0, none⟩)) (by kernel_rfl) (by kernel_rfl) fun a hK => ?_
     refine stepLoad hK 30 (.slice p.A1 p.ds.length p.c1) (by kernel_rfl) rfl rfl ((hM.row 0 rfl).cells 0 1) (by kernel_rfl) fun a hK => ?_
     refine stepM hK 31 3 (by kernel_rfl) (.inl rfl) rfl fun a hK => ?_
     refine stepP hK 32 (.pointer (some (at5.add (i * 3)))) (by kernel_rfl) (run_ixA (k := i) (s := 3) rfl rfl At5 rfl Tryd.underlying22 (by kernel_rfl) (by omega)) fun a hK => ?_
     refine stepP hK 33 (.pointer (some ((at5.add (i * 3)).add 2))) (by kernel_rfl) (by kernel_rfl) fun a hK => ?_
     refine stepLoad hK 34 (.int .i64 t5.val) (by kernel_rfl) rfl rfl (((ct5.on hM.below)).addA 2 1 (by decide)) (by kernel_rfl) fun a hK => ?_
     by_cases h7 : (t5.val : Int) < 0
     ·refine stepP hK 35 (.bool true) (by kernel_rfl) (okBool (b := (decide ((t5.val : Int) < 0))) (by kernel_rfl) (decide_eq_true h7)) fun a hK => ?_
      refine stepP hK 36 (.bool true) (by kernel_rfl) (by kernel_rfl) fun a hK => ?_
      refine region_done hK [(36, .bool true), (17, .bool true), (12, .bool false), (2, .int .i64 0), (1, .pointer (some ⟨b1, 0, none⟩)), (0, .agg #[.slice p.A1 p.ds.length p.c1, .slice p.A2 p.ts.length p.c2]), (3, .int .i64 ((i : Nat) : Int))] ⟨rfl, rfl, rfl, rfl, rfl, rfl, rfl, trivial⟩ fun a hK => ?_
      refine wp_cond_true (hK.get rfl) ?_
      refine wp_seq ?_
      refine region_go (lst := [0]) (by kernel_rfl) ?_
      refine stepP hK 2 (.int .i64 2) (by kernel_rfl) (by kernel_rfl) fun a hK => ?_
      refine region_done hK [(2, .int .i64 2), (36, .bool true), (17, .bool true), (12, .bool false), (1, .pointer (some ⟨b1, 0, none⟩)), (0, .agg #[.slice p.A1 p.ds.length p.c1, .slice p.A2 p.ts.length p.c2]), (3, .int .i64 ((i : Nat) : Int))] ⟨rfl, rfl, rfl, rfl, rfl, rfl, rfl, trivial⟩ fun a hK => ?_
      refine wp_ret ?_
      exact ret_t hK rfl (u := (.int .i64 2)) rfl (⟨by unfold chkP; rw [hbig, if_neg (by decide), if_neg (by rw [← hR.2, dcsOk_step ht5, show dcOk t5 = false by unfold dcOk; rw [h6, (decide_eq_true h7)]; rfl]; simp)], hM.below⟩)
     ·refine stepP hK 35 (.bool false) (by kernel_rfl) (okBool (b := (decide ((t5.val : Int) < 0))) (by kernel_rfl) (decide_eq_false h7)) fun a hK => ?_
      refine stepP hK 36 (.bool false) (by kernel_rfl) (by kernel_rfl) fun a hK => ?_
      refine region_done hK [(36, .bool false), (17, .bool true), (12, .bool false), (2, .int .i64 0), (1, .pointer (some ⟨b1, 0, none⟩)), (0, .agg #[.slice p.A1 p.ds.length p.c1, .slice p.A2 p.ts.length p.c2]), (3, .int .i64 ((i : Nat) : Int))] ⟨rfl, rfl, rfl, rfl, rfl, rfl, rfl, trivial⟩ fun a hK => ?_
      refine wp_cond_false (hK.get rfl) ?_
      refine wp_skip ?_
      refine region_go (lst := [0, 1, 2]) (by kernel_rfl) ?_
      refine stepM hK 18 3 (by kernel_rfl) (.inl rfl) rfl fun a hK => ?_
      refine stepP hK 19 (.int .i64 (((i + 1) : Nat) : Int)) (by kernel_rfl) (run_addN (i := i) (j := 1) rfl rfl rfl (by omega)) fun a hK => ?_
      refine stepM hK 3 19 (by kernel_rfl) (.inr rfl) rfl fun a hK => ?_
      refine region_done hK [(3, .int .i64 (((i + 1) : Nat) : Int)), (36, .bool false), (17, .bool true), (12, .bool false), (2, .int .i64 0), (1, .pointer (some ⟨b1, 0, none⟩)), (0, .agg #[.slice p.A1 p.ds.length p.c1, .slice p.A2 p.ts.length p.c2])] ⟨rfl, rfl, rfl, rfl, rfl, rfl, rfl, trivial⟩ fun a hK => ?_
      have hRn : (i + 1) ≤ p.ds.length ∧ dcsOk (p.ds.drop (i + 1)) = dcsOk p.ds := ⟨by omega, by rw [← hR.2, dcsOk_step ht5, show dcOk t5 = true by unfold dcOk; rw [h6, (decide_eq_false h7)]; rfl]; rfl⟩
      have hmn : p.ds.length - (i + 1) < p.ds.length - i := by omega
      exact ⟨i + 1, hK.sub ⟨rfl, rfl, rfl, rfl, rfl, trivial⟩, hM, hRn, hmn⟩
    ·refine stepRet hK hM 26 #[Str t5.nm] (.bool false) (by kernel_rfl) (run_callE en_cantileverref03_Word rfl rfl (by kernel_rfl)) (ret_eq (ref_Wd t5.nm _ (by have h1 := hshD _ (List.mem_of_getElem? ht5); omega)) (congrArg Value.bool h6)) fun a w hK hM => ?_
     refine stepP hK 27 (.bool true) (by kernel_rfl) (by kernel_rfl) fun a hK => ?_
     refine stepM hK 28 27 (by kernel_rfl) (.inl rfl) rfl fun a hK => ?_
     refine stepN hK 29 (by kernel_rfl) fun a hK => ?_
     refine stepN hK 30 (by kernel_rfl) fun a hK => ?_
     refine stepN hK 31 (by kernel_rfl) fun a hK => ?_
     refine stepN hK 32 (by kernel_rfl) fun a hK => ?_
     refine stepN hK 33 (by kernel_rfl) fun a hK => ?_
     refine stepN hK 34 (by kernel_rfl) fun a hK => ?_
     refine stepN hK 35 (by kernel_rfl) fun a hK => ?_
     refine stepP hK 36 (.bool true) (by kernel_rfl) (by kernel_rfl) fun a hK => ?_
     refine region_done hK [(36, .bool true), (17, .bool true), (12, .bool false), (2, .int .i64 0), (1, .pointer (some ⟨b1, 0, none⟩)), (0, .agg #[.slice p.A1 p.ds.length p.c1, .slice p.A2 p.ts.length p.c2]), (3, .int .i64 ((i : Nat) : Int))] ⟨rfl, rfl, rfl, rfl, rfl, rfl, rfl, trivial⟩ fun a hK => ?_
     refine wp_cond_true (hK.get rfl) ?_
     refine wp_seq ?_
     refine region_go (lst := [0]) (by kernel_rfl) ?_
     refine stepP hK 2 (.int .i64 2) (by kernel_rfl) (by kernel_rfl) fun a hK => ?_
     refine region_done hK [(2, .int .i64 2), (36, .bool true), (17, .bool true), (12, .bool false), (1, .pointer (some ⟨b1, 0, none⟩)), (0, .agg #[.slice p.A1 p.ds.length p.c1, .slice p.A2 p.ts.length p.c2]), (3, .int .i64 ((i : Nat) : Int))] ⟨rfl, rfl, rfl, rfl, rfl, rfl, rfl, trivial⟩ fun a hK => ?_
     refine wp_ret ?_
     exact ret_t hK rfl (u := (.int .i64 2)) rfl (⟨by unfold chkP; rw [hbig, if_neg (by decide), if_neg (by rw [← hR.2, dcsOk_step ht5, show dcOk t5 = false by unfold dcOk; rw [h6]; rfl]; simp)], hM.below⟩)
   ·refine stepP hK 17 (.bool false) (by kernel_rfl) (okBool (b := (decide ((((i : Nat) : Int) : Int) < ((p.ds.length : Nat) : Int)))) (by kernel_rfl) (decide_eq_false h4)) fun a hK => ?_
    refine region_done hK [(17, .bool false), (12, .bool false), (2, .int .i64 0), (1, .pointer (some ⟨b1, 0, none⟩)), (0, .agg #[.slice p.A1 p.ds.length p.c1, .slice p.A2 p.ts.length p.c2]), (3, .int .i64 ((i : Nat) : Int))] ⟨rfl, rfl, rfl, rfl, rfl, rfl, trivial⟩ fun a hK => ?_
    refine wp_cond_false (hK.get rfl) ?_
    refine wp_exit (exit_then (exit_then (exit_here 0 ?_)))
    refine wp_seq ?_
    refine wp_seq ?_
    refine region_go (lst := [0]) (by kernel_rfl) ?_
    refine stepP hK 4 (.int .i64 0) (by kernel_rfl) (by kernel_rfl) fun a hK => ?_
    refine region_done hK [(4, .int .i64 0), (17, .bool false), (12, .bool false), (2, .int .i64 0), (1, .pointer (some ⟨b1, 0, none⟩)), (0, .agg #[.slice p.A1 p.ds.length p.c1, .slice p.A2 p.ts.length p.c2]), (3, .int .i64 ((i : Nat) : Int))] ⟨rfl, rfl, rfl, rfl, rfl, rfl, rfl, trivial⟩ fun a hK => ?_
    refine wp_block ?_
    have hdo : dcsOk p.ds = true := by rw [← hR.2, dcsOk_end (by omega)]
    refine wp_loopX (fun x : Nat => [(17, .bool false), (12, .bool false), (2, .int .i64 0), (1, .pointer (some ⟨b1, 0, none⟩)), (0, .agg #[.slice p.A1 p.ds.length p.c1, .slice p.A2 p.ts.length p.c2]), (3, .int .i64 ((i : Nat) : Int)), (4, .int .i64 ((x : Nat) : Int))]) (fun x : Nat => [.row b1 25 [.slice p.A1 p.ds.length p.c1, .slice p.A2 p.ts.length p.c2]]) (fun x : Nat => x ≤ p.ts.length ∧ thsOk (p.ts.drop x) = thsOk p.ts) (fun x : Nat => p.ts.length - x) 0 (hK.sub ⟨rfl, rfl, rfl, rfl, rfl, rfl, rfl, trivial⟩) hM ⟨Nat.zero_le _, rfl⟩ ?_
    rintro j a w hK hM hR
    replace hK : Knows a 51 [(17, .bool false), (12, .bool false), (2, .int .i64 0), (1, .pointer (some ⟨b1, 0, none⟩)), (0, .agg #[.slice p.A1 p.ds.length p.c1, .slice p.A2 p.ts.length p.c2]), (3, .int .i64 ((i : Nat) : Int)), (4, .int .i64 ((j : Nat) : Int))] := hK
    replace hM : Mem w0 w [.row b1 25 [.slice p.A1 p.ds.length p.c1, .slice p.A2 p.ts.length p.c2]] := hM
    replace hR : j ≤ p.ts.length ∧ thsOk (p.ts.drop j) = thsOk p.ts := hR
    refine wp_seq ?_
    refine wp_seq ?_
    refine region_go (lst := [0, 1, 2, 3, 4]) (by kernel_rfl) ?_
    refine stepM hK 37 4 (by kernel_rfl) (.inl rfl) rfl fun a hK => ?_
    refine stepP hK 38 (.pointer (some ⟨b1, 1, none⟩)) (by kernel_rfl) (by kernel_rfl) fun a hK => ?_
    refine stepLoad hK 39 (.slice p.A2 p.ts.length p.c2) (by kernel_rfl) rfl rfl ((hM.row 0 rfl).cells 1 1) (by kernel_rfl) fun a hK => ?_
    refine stepP hK 40 (.int .i64 ((p.ts.length : Nat) : Int)) (by kernel_rfl) (by kernel_rfl) fun a hK => ?_
    by_cases h8 : (((j : Nat) : Int) : Int) < ((p.ts.length : Nat) : Int)
    ·refine stepP hK 41 (.bool true) (by kernel_rfl) (okBool (b := (decide ((((j : Nat) : Int) : Int) < ((p.ts.length : Nat) : Int)))) (by kernel_rfl) (decide_eq_true h8)) fun a hK => ?_
     refine region_done hK [(41, .bool true), (17, .bool false), (12, .bool false), (2, .int .i64 0), (1, .pointer (some ⟨b1, 0, none⟩)), (0, .agg #[.slice p.A1 p.ds.length p.c1, .slice p.A2 p.ts.length p.c2]), (3, .int .i64 ((i : Nat) : Int)), (4, .int .i64 ((j : Nat) : Int))] ⟨rfl, rfl, rfl, rfl, rfl, rfl, rfl, rfl, trivial⟩ fun a hK => ?_
     refine wp_cond_true (hK.get rfl) ?_
     refine wp_skip ?_
     refine wp_seq ?_
     refine wp_block ?_
     refine wp_seq ?_
     refine region_go (lst := [0, 1, 2, 3, 4, 5, 6]) (by kernel_rfl) ?_
     refine stepP hK 44 (.pointer (some ⟨b1, 1, none⟩)) (by kernel_rfl) (by kernel_rfl) fun a hK => ?_
     refine stepLoad hK 45 (.slice p.A2 p.ts.length p.c2) (by kernel_rfl) rfl rfl ((hM.row 0 rfl).cells 1 1) (by kernel_rfl) fun a hK => ?_
     refine stepM hK 46 4 (by kernel_rfl) (.inl rfl) rfl fun a hK => ?_
     obtain ⟨t9, ht9⟩ : ∃ t, p.ts[(j : Nat)]? = some t := ⟨_, List.getElem?_eq_getElem (by omega)⟩
     obtain ⟨⟨at9, At9, ct9⟩, et9⟩ := hp.threads _ _ ht9; have nt9 := et9.2
     refine stepP hK 47 (.pointer (some (at9.add (j * 1)))) (by kernel_rfl) (run_ixA (k := j) (s := 1) rfl rfl At9 rfl Tryd.underlying23 (by kernel_rfl) (by omega)) fun a hK => ?_
     refine stepLoad hK 48 (.slice t9.A t9.l.length t9.c) (by kernel_rfl) rfl rfl ((ct9.on hM.below)) (by kernel_rfl) fun a hK => ?_
     rcases Bool.eq_false_or_eq_true (smsOk t9.l) with h10 | h10
     ·refine stepRet hK hM 49 #[.slice t9.A t9.l.length t9.c] (.bool true) (by kernel_rfl) (run_callE en_cantileverref03_rights rfl rfl (by kernel_rfl)) (ret_eq (ref_rights t9.l _ _ _ (et9.1.on hM.below) (by omega) (hshT _ (List.mem_of_getElem? ht9))) (congrArg Value.bool h10)) fun a w hK hM => ?_
      refine stepP hK 50 (.bool false) (by kernel_rfl) (by kernel_rfl) fun a hK => ?_
      refine region_done hK [(50, .bool false), (41, .bool true), (17, .bool false), (12, .bool false), (2, .int .i64 0), (1, .pointer (some ⟨b1, 0, none⟩)), (0, .agg #[.slice p.A1 p.ds.length p.c1, .slice p.A2 p.ts.length p.c2]), (3, .int .i64 ((i : Nat) : Int)), (4, .int .i64 ((j : Nat) : Int))] ⟨rfl, rfl, rfl, rfl, rfl, rfl, rfl, rfl, rfl, trivial⟩ fun a hK => ?_
      refine wp_cond_false (hK.get rfl) ?_
      refine wp_skip ?_
      refine region_go (lst := [0, 1, 2]) (by kernel_rfl) ?_
      refine stepM hK 42 4 (by kernel_rfl) (.inl rfl) rfl fun a hK => ?_
      refine stepP hK 43 (.int .i64 (((j + 1) : Nat) : Int)) (by kernel_rfl) (run_addN (i := j) (j := 1) rfl rfl rfl (by omega)) fun a hK => ?_
      refine stepM hK 4 43 (by kernel_rfl) (.inr rfl) rfl fun a hK => ?_
      refine region_done hK [(4, .int .i64 (((j + 1) : Nat) : Int)), (50, .bool false), (41, .bool true), (17, .bool false), (12, .bool false), (2, .int .i64 0), (1, .pointer (some ⟨b1, 0, none⟩)), (0, .agg #[.slice p.A1 p.ds.length p.c1, .slice p.A2 p.ts.length p.c2]), (3, .int .i64 ((i : Nat) : Int))] ⟨rfl, rfl, rfl, rfl, rfl, rfl, rfl, rfl, rfl, trivial⟩ fun a hK => ?_
      have hRn : (j + 1) ≤ p.ts.length ∧ thsOk (p.ts.drop (j + 1)) = thsOk p.ts := ⟨by omega, by rw [← hR.2, thsOk_step ht9, h10]; rfl⟩
      have hmn : p.ts.length - (j + 1) < p.ts.length - j := by omega
      exact ⟨j + 1, hK.sub ⟨rfl, rfl, rfl, rfl, rfl, rfl, rfl, trivial⟩, hM, hRn, hmn⟩
     ·refine stepRet hK hM 49 #[.slice t9.A t9.l.length t9.c] (.bool false) (by kernel_rfl) (run_callE en_cantileverref03_rights rfl rfl (by kernel_rfl)) (ret_eq (ref_rights t9.l _ _ _ (et9.1.on hM.below) (by omega) (hshT _ (List.mem_of_getElem? ht9))) (congrArg Value.bool h10)) fun a w hK hM => ?_
      refine stepP hK 50 (.bool true) (by kernel_rfl) (by kernel_rfl) fun a hK => ?_
      refine region_done hK [(50, .bool true), (41, .bool true), (17, .bool false), (12, .bool false), (2, .int .i64 0), (1, .pointer (some ⟨b1, 0, none⟩)), (0, .agg #[.slice p.A1 p.ds.length p.c1, .slice p.A2 p.ts.length p.c2]), (3, .int .i64 ((i : Nat) : Int)), (4, .int .i64 ((j : Nat) : Int))] ⟨rfl, rfl, rfl, rfl, rfl, rfl, rfl, rfl, rfl, trivial⟩ fun a hK => ?_
      refine wp_cond_true (hK.get rfl) ?_
      refine wp_seq ?_
      refine region_go (lst := [0]) (by kernel_rfl) ?_
      refine stepP hK 2 (.int .i64 2) (by kernel_rfl) (by kernel_rfl) fun a hK => ?_
      refine region_done hK [(2, .int .i64 2), (50, .bool true), (41, .bool true), (17, .bool false), (12, .bool false), (1, .pointer (some ⟨b1, 0, none⟩)), (0, .agg #[.slice p.A1 p.ds.length p.c1, .slice p.A2 p.ts.length p.c2]), (3, .int .i64 ((i : Nat) : Int)), (4, .int .i64 ((j : Nat) : Int))] ⟨rfl, rfl, rfl, rfl, rfl, rfl, rfl, rfl, rfl, trivial⟩ fun a hK => ?_
      refine wp_ret ?_
      exact ret_t hK rfl (u := (.int .i64 2)) rfl (⟨by unfold chkP; rw [hbig, if_neg (by decide), if_pos hdo, if_neg (by rw [← hR.2, thsOk_step ht9, h10]; simp)], hM.below⟩)
    ·refine stepP hK 41 (.bool false) (by kernel_rfl) (okBool (b := (decide ((((j : Nat) : Int) : Int) < ((p.ts.length : Nat) : Int)))) (by kernel_rfl) (decide_eq_false h8)) fun a hK => ?_
     refine region_done hK [(41, .bool false), (17, .bool false), (12, .bool false), (2, .int .i64 0), (1, .pointer (some ⟨b1, 0, none⟩)), (0, .agg #[.slice p.A1 p.ds.length p.c1, .slice p.A2 p.ts.length p.c2]), (3, .int .i64 ((i : Nat) : Int)), (4, .int .i64 ((j : Nat) : Int))] ⟨rfl, rfl, rfl, rfl, rfl, rfl, rfl, rfl, trivial⟩ fun a hK => ?_
     refine wp_cond_false (hK.get rfl) ?_
     refine wp_exit (exit_then (exit_then (exit_here 2 ?_)))
     refine wp_seq ?_
     refine region_go (lst := [0]) (by kernel_rfl) ?_
     refine stepP hK 2 (.int .i64 0) (by kernel_rfl) (by kernel_rfl) fun a hK => ?_
     refine region_done hK [(2, .int .i64 0), (41, .bool false), (17, .bool false), (12, .bool false), (1, .pointer (some ⟨b1, 0, none⟩)), (0, .agg #[.slice p.A1 p.ds.length p.c1, .slice p.A2 p.ts.length p.c2]), (3, .int .i64 ((i : Nat) : Int)), (4, .int .i64 ((j : Nat) : Int))] ⟨rfl, rfl, rfl, rfl, rfl, rfl, rfl, rfl, trivial⟩ fun a hK => ?_
     refine wp_ret ?_
     exact ret_t hK rfl (u := (.int .i64 0)) rfl (⟨by unfold chkP; rw [hbig, if_neg (by decide), if_pos hdo, if_pos (by rw [← hR.2, thsOk_end (by omega)])], hM.below⟩)
set_option maxRecDepth 100000 in
set_option maxHeartbeats 4000000 in
theorem ref_CheckExpr (e : Ex) (w0 : World) (he : ExAt w0 e) (hsz : e.sz ≤ 1000000) (hsh : e.sh = true) : Calls Tryd.prog 15 #[.agg #[.int .i64 e.op, .int .i64 e.num, Str e.nm, .slice e.A e.ks.length e.c]] w0 (Ret w0 (.int .i64 (chkE e))) := by
 refine calls_K (args := [.agg #[.int .i64 e.op, .int .i64 e.num, Str e.nm, .slice e.A e.ks.length e.c]]) (n := 14) (env := [(0, .agg #[.int .i64 e.op, .int .i64 e.num, Str e.nm, .slice e.A e.ks.length e.c])]) Tryd.func15 rfl rfl rfl ⟨rfl, trivial⟩ fun a w hK hM => ?_
 refine wp_seq ?_
 refine region_go (lst := [0, 1]) (by kernel_rfl) ?_
 refine stepAlloc hK hM 1 36 [.int .i64 e.op, .int .i64 e.num, Str e.nm, .slice e.A e.ks.length e.c] (fun b => .pointer (some ⟨b, 0, none⟩)) (by kernel_rfl) (by kernel_rfl) fun b1 a w hK hM => ?_
 refine stepP hK 2 (.int .i64 0) (by kernel_rfl) (by kernel_rfl) fun a hK => ?_
 refine region_done hK [(2, .int .i64 0), (1, .pointer (some ⟨b1, 0, none⟩)), (0, .agg #[.int .i64 e.op, .int .i64 e.num, Str e.nm, .slice e.A e.ks.length e.c])] ⟨rfl, rfl, rfl, trivial⟩ fun a hK => ?_
 refine wp_seq ?_
 refine wp_seq ?_
 refine region_go (lst := [0, 1, 2, 3, 4, 5, 6, 7]) (by kernel_rfl) ?_
 refine stepLoad hK 3 (.agg #[.int .i64 e.op, .int .i64 e.num, Str e.nm, .slice e.A e.ks.length e.c]) (by kernel_rfl) rfl rfl ((hM.row 0 rfl).cells 0 4) (by kernel_rfl) fun a hK => ?_
 refine stepRet hK hM 4 #[.agg #[.int .i64 e.op, .int .i64 e.num, Str e.nm, .slice e.A e.ks.length e.c]] (.int .i64 (((e.sz) : Nat) : Int)) (by kernel_rfl) (run_callE en_cantileverref03_size rfl rfl (by kernel_rfl)) (ref_size e _ (he.on hM.below) hsz) fun a w hK hM => ?_
 by_cases h2 : (2000 : Int) < (((e.sz) : Nat) : Int)
 ·refine stepP hK 5 (.bool true) (by kernel_rfl) (okBool (b := (decide ((2000 : Int) < (((e.sz) : Nat) : Int)))) (by kernel_rfl) (decide_eq_true h2)) fun a hK => ?_
  refine stepM hK 6 5 (by kernel_rfl) (.inl rfl) rfl fun a hK => ?_
  refine stepN hK 7 (by kernel_rfl) fun a hK => ?_
  refine stepN hK 8 (by kernel_rfl) fun a hK => ?_
  refine stepN hK 9 (by kernel_rfl) fun a hK => ?_
  refine stepP hK 10 (.bool true) (by kernel_rfl) (by kernel_rfl) fun a hK => ?_
  refine region_done hK [(10, .bool true), (2, .int .i64 0), (1, .pointer (some ⟨b1, 0, none⟩)), (0, .agg #[.int .i64 e.op, .int .i64 e.num, Str e.nm, .slice e.A e.ks.length e.c])] ⟨rfl, rfl, rfl, rfl, trivial⟩ fun a hK => ?_
  refine wp_cond_true (hK.get rfl) ?_
  refine wp_seq ?_
  refine region_go (lst := [0]) (by kernel_rfl) ?_
  refine stepP hK 2 (.int .i64 3) (by kernel_rfl) (by kernel_rfl) fun a hK => ?_
  refine region_done hK [(2, .int .i64 3), (10, .bool true), (1, .pointer (some ⟨b1, 0, none⟩)), (0, .agg #[.int .i64 e.op, .int .i64 e.num, Str e.nm, .slice e.A e.ks.length e.c])] ⟨rfl, rfl, rfl, rfl, trivial⟩ fun a hK => ?_
  refine wp_ret ?_
  exact ret_t hK rfl (u := (.int .i64 3)) rfl (⟨by unfold chkE; rw [if_pos (by rw [(decide_eq_true h2)]; rfl)], hM.below⟩)
 ·refine stepP hK 5 (.bool false) (by kernel_rfl) (okBool (b := (decide ((2000 : Int) < (((e.sz) : Nat) : Int)))) (by kernel_rfl) (decide_eq_false h2)) fun a hK => ?_
  refine stepM hK 6 5 (by kernel_rfl) (.inl rfl) rfl fun a hK => ?_
  refine stepLoad hK 7 (.agg #[.int .i64 e.op, .int .i64 e.num, Str e.nm, .slice e.A e.ks.length e.c]) (by kernel_rfl) rfl rfl ((hM.row 0 rfl).cells 0 4) (by kernel_rfl) fun a hK => ?_
  refine stepRet hK hM 8 #[.agg #[.int .i64 e.op, .int .i64 e.num, Str e.nm, .slice e.A e.ks.length e.c]] (.int .i64 (((e.dp) : Nat) : Int)) (by kernel_rfl) (run_callE en_cantileverref03_deep rfl rfl (by kernel_rfl)) (ref_deep e _ (he.on hM.below) hsz) fun a w hK hM => ?_
  by_cases h3 : (32 : Int) < (((e.dp) : Nat) : Int)
  ·refine stepP hK 9 (.bool true) (by kernel_rfl) (okBool (b := (decide ((32 : Int) < (((e.dp) : Nat) : Int)))) (by kernel_rfl) (decide_eq_true h3)) fun a hK => ?_
   refine stepP hK 10 (.bool true) (by kernel_rfl) (by kernel_rfl) fun a hK => ?_
   refine region_done hK [(10, .bool true), (2, .int .i64 0), (1, .pointer (some ⟨b1, 0, none⟩)), (0, .agg #[.int .i64 e.op, .int .i64 e.num, Str e.nm, .slice e.A e.ks.length e.c])] ⟨rfl, rfl, rfl, rfl, trivial⟩ fun a hK => ?_
   refine wp_cond_true (hK.get rfl) ?_
   refine wp_seq ?_
   refine region_go (lst := [0]) (by kernel_rfl) ?_
   refine stepP hK 2 (.int .i64 3) (by kernel_rfl) (by kernel_rfl) fun a hK => ?_
   refine region_done hK [(2, .int .i64 3), (10, .bool true), (1, .pointer (some ⟨b1, 0, none⟩)), (0, .agg #[.int .i64 e.op, .int .i64 e.num, Str e.nm, .slice e.A e.ks.length e.c])] ⟨rfl, rfl, rfl, rfl, trivial⟩ fun a hK => ?_
   refine wp_ret ?_
   exact ret_t hK rfl (u := (.int .i64 3)) rfl (⟨by unfold chkE; rw [if_pos (by rw [(decide_eq_false h2), (decide_eq_true h3)]; rfl)], hM.below⟩)
  ·refine stepP hK 9 (.bool false) (by kernel_rfl) (okBool (b := (decide ((32 : Int) < (((e.dp) : Nat) : Int)))) (by kernel_rfl) (decide_eq_false h3)) fun a hK => ?_
   refine stepP hK 10 (.bool false) (by kernel_rfl) (by kernel_rfl) fun a hK => ?_
   refine region_done hK [(10, .bool false), (2, .int .i64 0), (1, .pointer (some ⟨b1, 0, none⟩)), (0, .agg #[.int .i64 e.op, .int .i64 e.num, Str e.nm, .slice e.A e.ks.length e.c])] ⟨rfl, rfl, rfl, rfl, trivial⟩ fun a hK => ?_
   refine wp_cond_false (hK.get rfl) ?_
   refine wp_skip ?_
   refine wp_seq ?_
   refine wp_seq ?_
   refine region_go (lst := [0, 1, 2]) (by kernel_rfl) ?_
   refine stepLoad hK 11 (.agg #[.int .i64 e.op, .int .i64 e.num, Str e.nm, .slice e.A e.ks.length e.c]) (by kernel_rfl) rfl rfl ((hM.row 0 rfl).cells 0 4) (by kernel_rfl) fun a hK => ?_
   rcases Bool.eq_false_or_eq_true e.ok with h4 | h4
   ·refine stepRet hK hM 12 #[.agg #[.int .i64 e.op, .int .i64 e.num, Str e.nm, .slice e.A e.ks.length e.c]] (.bool true) (by kernel_rfl) (run_callE en_cantileverref03_right rfl rfl (by kernel_rfl)) (ret_eq (ref_right e _ (he.on hM.below) hsh) (congrArg Value.bool h4)) fun a w hK hM => ?_
    refine stepP hK 13 (.bool false) (by kernel_rfl) (by kernel_rfl) fun a hK => ?_
    refine region_done hK [(13, .bool false), (10, .bool false), (2, .int .i64 0), (1, .pointer (some ⟨b1, 0, none⟩)), (0, .agg #[.int .i64 e.op, .int .i64 e.num, Str e.nm, .slice e.A e.ks.length e.c])] ⟨rfl, rfl, rfl, rfl, rfl, trivial⟩ fun a hK => ?_
    refine wp_cond_false (hK.get rfl) ?_
    refine wp_skip ?_
    refine wp_seq ?_
    refine region_go (lst := [0]) (by kernel_rfl) ?_
    refine stepP hK 2 (.int .i64 0) (by kernel_rfl) (by kernel_rfl) fun a hK => ?_
    refine region_done hK [(2, .int .i64 0), (13, .bool false), (10, .bool false), (1, .pointer (some ⟨b1, 0, none⟩)), (0, .agg #[.int .i64 e.op, .int .i64 e.num, Str e.nm, .slice e.A e.ks.length e.c])] ⟨rfl, rfl, rfl, rfl, rfl, trivial⟩ fun a hK => ?_
    refine wp_ret ?_
    exact ret_t hK rfl (u := (.int .i64 0)) rfl (⟨by unfold chkE; rw [show (decide ((2000 : Int) < ((e.sz : Nat) : Int)) || decide ((32 : Int) < ((e.dp : Nat) : Int))) = false by rw [(decide_eq_false h2), (decide_eq_false h3)]; rfl, if_neg (by decide), if_pos (by rw [h4])], hM.below⟩)
   ·refine stepRet hK hM 12 #[.agg #[.int .i64 e.op, .int .i64 e.num, Str e.nm, .slice e.A e.ks.length e.c]] (.bool false) (by kernel_rfl) (run_callE en_cantileverref03_right rfl rfl (by kernel_rfl)) (ret_eq (ref_right e _ (he.on hM.below) hsh) (congrArg Value.bool h4)) fun a w hK hM => ?_
    refine stepP hK 13 (.bool true) (by kernel_rfl) (by kernel_rfl) fun a hK => ?_
    refine region_done hK [(13, .bool true), (10, .bool false), (2, .int .i64 0), (1, .pointer (some ⟨b1, 0, none⟩)), (0, .agg #[.int .i64 e.op, .int .i64 e.num, Str e.nm, .slice e.A e.ks.length e.c])] ⟨rfl, rfl, rfl, rfl, rfl, trivial⟩ fun a hK => ?_
    refine wp_cond_true (hK.get rfl) ?_
    refine wp_seq ?_
    refine region_go (lst := [0]) (by kernel_rfl) ?_
    refine stepP hK 2 (.int .i64 2) (by kernel_rfl) (by kernel_rfl) fun a hK => ?_
    refine region_done hK [(2, .int .i64 2), (13, .bool true), (10, .bool false), (1, .pointer (some ⟨b1, 0, none⟩)), (0, .agg #[.int .i64 e.op, .int .i64 e.num, Str e.nm, .slice e.A e.ks.length e.c])] ⟨rfl, rfl, rfl, rfl, rfl, trivial⟩ fun a hK => ?_
    refine wp_ret ?_
    exact ret_t hK rfl (u := (.int .i64 2)) rfl (⟨by unfold chkE; rw [show (decide ((2000 : Int) < ((e.sz : Nat) : Int)) || decide ((32 : Int) < ((e.dp : Nat) : Int))) = false by rw [(decide_eq_false h2), (decide_eq_false h3)]; rfl, if_neg (by decide), if_neg (by rw [h4]; decide)], hM.below⟩)
end Go.Proofs.YtmfiiapmkidmkaaDoor
