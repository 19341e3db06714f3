/-
  Package ast's walk of threads.
-/
import Derived.Test.YtmfiiapmkidmkaaDoorAwA
namespace Go.Proofs.YtmfiiapmkidmkaaDoor
open Go Go.RowKit

theorem en_ast_walkThreads : Enters Tryd.prog 29 := enters_of Tryd.func29 (by kernel_rfl) rfl
set_option maxRecDepth 100000 in
set_option maxHeartbeats 4000000 in
theorem ast_walkThreads {σ : Type} {w0 : World} {G : σ → List It} {ok : Nat → σ → Prop} {f : Ex → Nat → σ → Bool × σ} {g : Sm → Nat → σ → Bool × σ} {fe fs : FuncId} {ce cs : Array Value} (hE : StepE w0 G ok f fe ce) (hS : StepS w0 G ok g fs cs) (p : Pg) (k : Nat) (s : σ) (F : List It) (w1 : World) (hp : PgAt w0 p) (hsz : thsSz p.ts ≤ 900000) (hsh : pgSh p = true) (hM0 : Mem w0 w1 (G s ++ F)) (hok : ok (thsSz p.ts + k) s) : Calls Tryd.prog 29 #[.agg #[.slice p.A1 p.ds.length p.c1, .slice p.A2 p.ts.length p.c2], .func (.func fe) #[] ce, .func (.func fs) #[] cs] w1 (Gives w0 (fun r : Bool × σ => .bool r.1) (fun r => G r.2 ++ F) fun r => r = thsWk f g p.ts s ∧ (r.1 = true → ok k r.2)) := by
  have hpl := hp.len
  obtain ⟨hshD, hshT⟩ := pg_sh hsh
  refine calls_KM (args := [.agg #[.slice p.A1 p.ds.length p.c1, .slice p.A2 p.ts.length p.c2], .func (.func fe) #[] ce, .func (.func fs) #[] cs]) (n := 22) (env := [(0, .agg #[.slice p.A1 p.ds.length p.c1, .slice p.A2 p.ts.length p.c2]), (1, .func (.func fe) #[] ce), (2, .func (.func fs) #[] cs)]) Tryd.func29 rfl rfl rfl ⟨rfl, rfl, rfl, trivial⟩ hM0 fun a w hK hM => ?_
  refine wp_seq ?_
  refine region_go (lst := [0, 1]) (by kernel_rfl) ?_
  refine stepAlloc hK hM 3 25 [.slice p.A1 p.ds.length p.c1, .slice p.A2 p.ts.length p.c2] (fun b => .pointer (some ⟨b, 0, none⟩)) (by kernel_rfl) (by kernel_rfl) fun b1 a w hK hM => ?_
  refine stepP hK 6 (.bool false) (by kernel_rfl) (by kernel_rfl) fun a hK => ?_
  refine region_done hK [(6, .bool false), (3, .pointer (some ⟨b1, 0, none⟩)), (0, .agg #[.slice p.A1 p.ds.length p.c1, .slice p.A2 p.ts.length p.c2]), (1, .func (.func fe) #[] ce), (2, .func (.func fs) #[] cs)] ⟨rfl, rfl, rfl, rfl, rfl, trivial⟩ fun a hK => ?_
  refine wp_seq ?_
  refine wp_seq ?_
  refine region_go (lst := [0, 1, 2, 3]) (by kernel_rfl) ?_
  refine stepP hK 9 (.pointer (some ⟨b1, 1, none⟩)) (by kernel_rfl) (by kernel_rfl) fun a hK => ?_
  refine stepLoad hK 10 (.slice p.A2 p.ts.length p.c2) (by kernel_rfl) rfl rfl ((hM.row 0 rfl).cells 1 1) (by kernel_rfl) fun a hK => ?_
  refine stepP hK 11 (.int .i64 ((p.ts.length : Nat) : Int)) (by kernel_rfl) (by kernel_rfl) fun a hK => ?_
  refine stepP hK 12 (.int .i64 0) (by kernel_rfl) (by kernel_rfl) fun a hK => ?_
  refine region_done hK [(12, .int .i64 0), (11, .int .i64 ((p.ts.length : Nat) : Int)), (10, .slice p.A2 p.ts.length p.c2), (6, .bool false), (3, .pointer (some ⟨b1, 0, none⟩)), (0, .agg #[.slice p.A1 p.ds.length p.c1, .slice p.A2 p.ts.length p.c2]), (1, .func (.func fe) #[] ce), (2, .func (.func fs) #[] cs)] ⟨rfl, rfl, rfl, rfl, rfl, rfl, rfl, rfl, trivial⟩ fun a hK => ?_
  refine wp_block ?_
  refine wp_loopX (fun x : Nat × σ => [(11, .int .i64 ((p.ts.length : Nat) : Int)), (10, .slice p.A2 p.ts.length p.c2), (6, .bool false), (3, .pointer (some ⟨b1, 0, none⟩)), (0, .agg #[.slice p.A1 p.ds.length p.c1, .slice p.A2 p.ts.length p.c2]), (1, .func (.func fe) #[] ce), (2, .func (.func fs) #[] cs), (12, .int .i64 ((x.1 : Nat) : Int))]) (fun x : Nat × σ => (.row b1 25 [.slice p.A1 p.ds.length p.c1, .slice p.A2 p.ts.length p.c2] :: (G x.2 ++ F))) (fun x : Nat × σ => x.1 ≤ p.ts.length ∧ thsWk f g (p.ts.drop x.1) x.2 = thsWk f g p.ts s ∧ ok (thsSz (p.ts.drop x.1) + k) x.2) (fun x : Nat × σ => p.ts.length - x.1) (0, s) (hK.sub ⟨rfl, rfl, rfl, rfl, rfl, rfl, rfl, rfl, trivial⟩) hM ⟨Nat.zero_le _, rfl, ok_eq hok (by rw [List.drop_zero])⟩ ?_
  rintro ⟨i, s1⟩ a w hK hM hR
  replace hK : Knows a 22 [(11, .int .i64 ((p.ts.length : Nat) : Int)), (10, .slice p.A2 p.ts.length p.c2), (6, .bool false), (3, .pointer (some ⟨b1, 0, none⟩)), (0, .agg #[.slice p.A1 p.ds.length p.c1, .slice p.A2 p.ts.length p.c2]), (1, .func (.func fe) #[] ce), (2, .func (.func fs) #[] cs), (12, .int .i64 ((i : Nat) : Int))] := hK
  replace hM : Mem w0 w (.row b1 25 [.slice p.A1 p.ds.length p.c1, .slice p.A2 p.ts.length p.c2] :: (G s1 ++ F)) := hM
  replace hR : i ≤ p.ts.length ∧ thsWk f g (p.ts.drop i) s1 = thsWk f g p.ts s ∧ ok (thsSz (p.ts.drop i) + k) s1 := hR
  refine wp_seq ?_
  refine region_go (lst := [0]) (by kernel_rfl) ?_
  by_cases h2 : (((i : Nat) : Int) : Int) < ((p.ts.length : Nat) : Int)
  · refine stepP hK 13 (.bool true) (by kernel_rfl) (okBool (b := (decide ((((i : Nat) : Int) : Int) < ((p.ts.length : Nat) : Int)))) (by kernel_rfl) (decide_eq_true h2)) fun a hK => ?_
    refine region_done hK [(13, .bool true), (11, .int .i64 ((p.ts.length : Nat) : Int)), (10, .slice p.A2 p.ts.length p.c2), (6, .bool false), (3, .pointer (some ⟨b1, 0, none⟩)), (0, .agg #[.slice p.A1 p.ds.length p.c1, .slice p.A2 p.ts.length p.c2]), (1, .func (.func fe) #[] ce), (2, .func (.func fs) #[] cs), (12, .int .i64 ((i : Nat) : Int))] ⟨rfl, rfl, rfl, rfl, rfl, rfl, rfl, rfl, rfl, trivial⟩ fun a hK => ?_
    refine wp_seq ?_
    refine wp_cond_true (hK.get rfl) ?_
    refine wp_skip ?_
    refine wp_seq ?_
    refine wp_block ?_
    refine wp_seq ?_
    refine region_go (lst := [0, 1, 2]) (by kernel_rfl) ?_
    obtain ⟨t3, ht3⟩ : ∃ t, p.ts[(i : Nat)]? = some t := ⟨_, List.getElem?_eq_getElem (by omega)⟩
    obtain ⟨⟨at3, At3, ct3⟩, et3⟩ := hp.threads _ _ ht3; have nt3 := et3.2
    refine stepP hK 14 (.pointer (some (at3.add (i * 1)))) (by kernel_rfl) (run_ixA (k := i) (s := 1) rfl rfl At3 rfl Tryd.underlying23 (by kernel_rfl) (by omega)) fun a hK => ?_
    refine stepLoad hK 15 (.slice t3.A t3.l.length t3.c) (by kernel_rfl) rfl rfl ((ct3.on hM.below)) (by kernel_rfl) fun a hK => ?_
    refine stepM hK 8 15 (by kernel_rfl) (.inr rfl) rfl fun a hK => ?_
    refine region_done hK [(8, .slice t3.A t3.l.length t3.c), (13, .bool true), (11, .int .i64 ((p.ts.length : Nat) : Int)), (10, .slice p.A2 p.ts.length p.c2), (6, .bool false), (3, .pointer (some ⟨b1, 0, none⟩)), (0, .agg #[.slice p.A1 p.ds.length p.c1, .slice p.A2 p.ts.length p.c2]), (1, .func (.func fe) #[] ce), (2, .func (.func fs) #[] cs), (12, .int .i64 ((i : Nat) : Int))] ⟨rfl, rfl, rfl, rfl, rfl, rfl, rfl, rfl, rfl, rfl, trivial⟩ fun a hK => ?_
    refine wp_seq ?_
    refine region_go (lst := [0, 1, 2, 3, 4]) (by kernel_rfl) ?_
    refine stepM hK 16 8 (by kernel_rfl) (.inl rfl) rfl fun a hK => ?_
    refine stepM hK 17 1 (by kernel_rfl) (.inl rfl) rfl fun a hK => ?_
    refine stepM hK 18 2 (by kernel_rfl) (.inl rfl) rfl fun a hK => ?_
    have hc7m : Mem w0 _ (G s1 ++ ([.row b1 25 [.slice p.A1 p.ds.length p.c1, .slice p.A2 p.ts.length p.c2]] ++ F)) := (hM.perm (perm_mid [.row b1 25 [.slice p.A1 p.ds.length p.c1, .slice p.A2 p.ts.length p.c2]] (G s1) F))
    have hc7 := ast_walk hE hS [] t3.l none 0 t3.A t3.c 1 (thsSz (p.ts.drop (i + 1)) + k) s1 ([.row b1 25 [.slice p.A1 p.ds.length p.c1, .slice p.A2 p.ts.length p.c2]] ++ F) _ (by have h1 := thsSz_mem ht3; simp only [exsSz]; omega) (fun s F w h => ⟨fun k x hx => by simp at hx, et3.1.on h.below⟩) rfl (hshT _ (List.mem_of_getElem? ht3)) hc7m (ok_eq hR.2.2 (by have h1 := thsSz_drop ht3; simp only [exsSz]; omega))
    replace hc7 := hc7.mono (fun _ _ h => Gives.perm (g' := fun r : Bool × σ => [.row b1 25 [.slice p.A1 p.ds.length p.c1, .slice p.A2 p.ts.length p.c2]] ++ (G r.2 ++ F)) (fun r => perm_mid2 [.row b1 25 [.slice p.A1 p.ds.length p.c1, .slice p.A2 p.ts.length p.c2]] (G r.2) F) h)
    refine stepCallIn hK 19 #[.slice none 0 0, .slice t3.A t3.l.length t3.c, .int .i64 1, .func (.func fe) #[] ce, .func (.func fs) #[] cs] (by kernel_rfl) (run_callE en_ast_walk rfl rfl (by kernel_rfl)) (hc7) ?_
    rintro ⟨r4, q5⟩ a w hR6 hK hM
    replace hM := hM.to (.row b1 25 [.slice p.A1 p.ds.length p.c1, .slice p.A2 p.ts.length p.c2] :: (G q5 ++ F)) (by kernel_rfl)
    rcases Bool.eq_false_or_eq_true (!r4) with h9 | h9
    · refine stepP hK 20 (.bool true) (by kernel_rfl) (okBool (b := (!r4)) (by kernel_rfl) h9) fun a hK => ?_
      refine region_done hK [(20, .bool true), (8, .slice t3.A t3.l.length t3.c), (13, .bool true), (11, .int .i64 ((p.ts.length : Nat) : Int)), (10, .slice p.A2 p.ts.length p.c2), (6, .bool false), (3, .pointer (some ⟨b1, 0, none⟩)), (0, .agg #[.slice p.A1 p.ds.length p.c1, .slice p.A2 p.ts.length p.c2]), (1, .func (.func fe) #[] ce), (2, .func (.func fs) #[] cs), (12, .int .i64 ((i : Nat) : Int))] ⟨rfl, rfl, rfl, rfl, rfl, rfl, rfl, rfl, rfl, rfl, rfl, trivial⟩ fun a hK => ?_
      refine wp_cond_true (hK.get rfl) ?_
      refine wp_seq ?_
      refine region_go (lst := [0]) (by kernel_rfl) ?_
      refine stepP hK 6 (.bool false) (by kernel_rfl) (by kernel_rfl) fun a hK => ?_
      refine region_done hK [(6, .bool false), (20, .bool true), (8, .slice t3.A t3.l.length t3.c), (13, .bool true), (11, .int .i64 ((p.ts.length : Nat) : Int)), (10, .slice p.A2 p.ts.length p.c2), (3, .pointer (some ⟨b1, 0, none⟩)), (0, .agg #[.slice p.A1 p.ds.length p.c1, .slice p.A2 p.ts.length p.c2]), (1, .func (.func fe) #[] ce), (2, .func (.func fs) #[] cs), (12, .int .i64 ((i : Nat) : Int))] ⟨rfl, rfl, rfl, rfl, rfl, rfl, rfl, rfl, rfl, rfl, rfl, trivial⟩ fun a hK => ?_
      refine wp_ret ?_
      exact ret_t hK rfl (u := (.bool false)) rfl (⟨(false, q5), rfl, (hM.drop 1), (ths_stop ht3 hR.2.1 (walkW_s.symm.trans (pair_of hR6.1 (bf_of h9)).symm)).symm, fun h => by cases h⟩)
    · refine stepP hK 20 (.bool false) (by kernel_rfl) (okBool (b := (!r4)) (by kernel_rfl) h9) fun a hK => ?_
      refine region_done hK [(20, .bool false), (8, .slice t3.A t3.l.length t3.c), (13, .bool true), (11, .int .i64 ((p.ts.length : Nat) : Int)), (10, .slice p.A2 p.ts.length p.c2), (6, .bool false), (3, .pointer (some ⟨b1, 0, none⟩)), (0, .agg #[.slice p.A1 p.ds.length p.c1, .slice p.A2 p.ts.length p.c2]), (1, .func (.func fe) #[] ce), (2, .func (.func fs) #[] cs), (12, .int .i64 ((i : Nat) : Int))] ⟨rfl, rfl, rfl, rfl, rfl, rfl, rfl, rfl, rfl, rfl, rfl, trivial⟩ fun a hK => ?_
      refine wp_cond_false (hK.get rfl) ?_
      refine wp_skip ?_
      refine region_go (lst := [0, 1]) (by kernel_rfl) ?_
      refine stepP hK 21 (.int .i64 (((i + 1) : Nat) : Int)) (by kernel_rfl) (run_addN (i := i) (j := 1) rfl rfl rfl (by omega)) fun a hK => ?_
      refine stepM hK 12 21 (by kernel_rfl) (.inl rfl) rfl fun a hK => ?_
      refine region_done hK [(12, .int .i64 (((i + 1) : Nat) : Int)), (20, .bool false), (8, .slice t3.A t3.l.length t3.c), (13, .bool true), (11, .int .i64 ((p.ts.length : Nat) : Int)), (10, .slice p.A2 p.ts.length p.c2), (6, .bool false), (3, .pointer (some ⟨b1, 0, none⟩)), (0, .agg #[.slice p.A1 p.ds.length p.c1, .slice p.A2 p.ts.length p.c2]), (1, .func (.func fe) #[] ce), (2, .func (.func fs) #[] cs)] ⟨rfl, rfl, rfl, rfl, rfl, rfl, rfl, rfl, rfl, rfl, rfl, trivial⟩ fun a hK => ?_
      have hRn : (i + 1) ≤ p.ts.length ∧ thsWk f g (p.ts.drop (i + 1)) q5 = thsWk f g p.ts s ∧ ok (thsSz (p.ts.drop (i + 1)) + k) q5 := ⟨by omega, ths_next ht3 hR.2.1 (walkW_s.symm.trans (pair_of hR6.1 (bt_of h9)).symm), hR6.2 (bt_of h9)⟩
      have hmn : p.ts.length - (i + 1) < p.ts.length - i := by omega
      exact ⟨(i + 1, q5), hK.sub ⟨rfl, rfl, rfl, rfl, rfl, rfl, rfl, rfl, trivial⟩, hM, hRn, hmn⟩
  · refine stepP hK 13 (.bool false) (by kernel_rfl) (okBool (b := (decide ((((i : Nat) : Int) : Int) < ((p.ts.length : Nat) : Int)))) (by kernel_rfl) (decide_eq_false h2)) fun a hK => ?_
    refine region_done hK [(13, .bool false), (11, .int .i64 ((p.ts.length : Nat) : Int)), (10, .slice p.A2 p.ts.length p.c2), (6, .bool false), (3, .pointer (some ⟨b1, 0, none⟩)), (0, .agg #[.slice p.A1 p.ds.length p.c1, .slice p.A2 p.ts.length p.c2]), (1, .func (.func fe) #[] ce), (2, .func (.func fs) #[] cs), (12, .int .i64 ((i : Nat) : Int))] ⟨rfl, rfl, rfl, rfl, rfl, rfl, rfl, rfl, rfl, trivial⟩ fun a hK => ?_
    refine wp_seq ?_
    refine wp_cond_false (hK.get rfl) ?_
    refine wp_exit (exit_then (exit_then (exit_here 0 ?_)))
    refine wp_seq ?_
    refine region_go (lst := [0]) (by kernel_rfl) ?_
    refine stepP hK 6 (.bool true) (by kernel_rfl) (by kernel_rfl) fun a hK => ?_
    refine region_done hK [(6, .bool true), (13, .bool false), (11, .int .i64 ((p.ts.length : Nat) : Int)), (10, .slice p.A2 p.ts.length p.c2), (3, .pointer (some ⟨b1, 0, none⟩)), (0, .agg #[.slice p.A1 p.ds.length p.c1, .slice p.A2 p.ts.length p.c2]), (1, .func (.func fe) #[] ce), (2, .func (.func fs) #[] cs), (12, .int .i64 ((i : Nat) : Int))] ⟨rfl, rfl, rfl, rfl, rfl, rfl, rfl, rfl, rfl, trivial⟩ fun a hK => ?_
    refine wp_ret ?_
    exact ret_t hK rfl (u := (.bool true)) rfl (⟨(true, s1), rfl, (hM.drop 1), (hR.2.1.symm.trans (ths_end (by omega))).symm, fun _ => ok_eq hR.2.2 (by rw [thsSz_end (by omega)]; omega)⟩)
end Go.Proofs.YtmfiiapmkidmkaaDoor
