/-
  What AstCallsCard stands on, part 5.
-/
import Derived.Shelf.LaysM
import Derived.Shelf.Strconv.Clone
import Derived.Ground.SlgmProg
import Derived.Shelf.SortM.Plain
import Derived.Shelf.SortM.SortNone
import Derived.Test.YtiigncmpbkfhmaaGreatDoorProg
import Derived.Shelf.SlIter.Nil
import Derived.Ground.GgzProg
import Derived.Test.YtiigncmpbkfhmaaGreatDoorPk4
namespace Go.Proofs.YtiigncmpbkfhmaaGreatDoor
open Go Go.RowKit
theorem perm_mid (r : List It) (g F : List It) : (r ++ (g ++ F)).Perm (g ++ (r ++ F)) := by
 rw [← List.append_assoc, ← List.append_assoc]
 exact (List.perm_append_comm).append_right F
theorem perm_mid2 (r : List It) (g F : List It) : (g ++ (r ++ F)).Perm (r ++ (g ++ F)) := (perm_mid r g F).symm
theorem en_ast_walk : Enters Tryz.prog 36 := enters_of Tryz.func36 (by kernel_rfl) rfl
set_option maxRecDepth 100000 in
set_option maxHeartbeats 4000000 in
theorem ast_walk_n {σ : Type} {w0 : World} {G : σ → List It} {ok : Nat → σ → Prop} {f : Ex → Nat → σ → Bool × σ} {g : Sm → Nat → σ → Bool × σ} {fe fs : FuncId} {ce cs : Array Value} (hE : StepE w0 G ok f fe ce) (hS : StepS w0 G ok g fs cs) : ∀ (n : Nat) (es : List Ex) (ss : List Sm) (A : Option Addr) (c : Nat) (B : Option Addr) (e d k : Nat) (s : σ) (F : List It) (w1 : World), exsSz es + smsSz ss < n → d + n ≤ 1000000 → (∀ (s : σ) (F : List It) (w : World), Mem w0 w (G s ++ F) → ExsAt w A es ∧ SmsAt w B ss) → exsSh es = true → smsSh ss = true → Mem w0 w1 (G s ++ F) → ok (exsSz es + smsSz ss + k) s → Calls Tryz.prog 36 #[.slice A es.length c, .slice B ss.length e, vN d, .func (.func fe) #[] ce, .func (.func fs) #[] cs] w1 (Gives w0 (fun r : Bool × σ => .bool r.1) (fun r => G r.2 ++ F) fun r => r = walkW f g es ss d s ∧ (r.1 = true → ok k r.2)) := by
 intro n
 induction n with
 | zero => intro es ss A c B e d k s F w1 h; omega
 | succ n ih =>
 intro es ss A c B e d k s F w1 hsz hd hT hs1 hs2 hM0 hok
 have hl1 := exsSz_len es; have hl2 := smsSz_len ss
 refine calls_KM (args := [.slice A es.length c, .slice B ss.length e, vN d, .func (.func fe) #[] ce, .func (.func fs) #[] cs]) (n := 71) (env := [(0, .slice A es.length c), (1, .slice B ss.length e), (2, vN d), (3, .func (.func fe) #[] ce), (4, .func (.func fs) #[] cs)]) Tryz.func36 rfl rfl rfl ⟨rfl, rfl, rfl, rfl, rfl, trivial⟩ hM0 fun a w hK hM => ?_
 refine wp_seq ?_
 refine rg1 (by kernel_rfl) ?_
 refine sP hK 10 (.bool false) (by kernel_rfl) (by kernel_rfl) fun a hK => ?_
 refine rps ?_
 refine wp_seq ?_
 refine wp_seq ?_
 refine rg3 (by kernel_rfl) ?_
 refine sM hK 15 0 (by kernel_rfl) (.inl rfl) rfl fun a hK => ?_
 refine sP hK 16 (.int .i64 ((es.length : Nat) : Int)) (by kernel_rfl) (by kernel_rfl) fun a hK => ?_
 refine sP hK 17 (.int .i64 0) (by kernel_rfl) (by kernel_rfl) fun a hK => ?_
 refine rps ?_
 refine wp_block ?_
 refine wLX (fun x : Nat × σ => [(16, .int .i64 ((es.length : Nat) : Int)), (15, .slice A es.length c), (10, .bool false), (0, .slice A es.length c), (1, .slice B ss.length e), (2, vN d), (3, .func (.func fe) #[] ce), (4, .func (.func fs) #[] cs), (17, .int .i64 ((x.1 : Nat) : Int))]) (fun x : Nat × σ => ((G x.2 ++ F))) (fun x : Nat × σ => x.1 ≤ es.length ∧ exsWk f (es.drop x.1) d x.2 = exsWk f es d s ∧ ok (exsSz (es.drop x.1) + (smsSz ss + k)) x.2) (fun x : Nat × σ => es.length - x.1) (0, s) (hK.sub ⟨rfl, rfl, rfl, rfl, rfl, rfl, rfl, rfl, rfl, trivial⟩) hM ⟨Nat.zero_le _, rfl, ok_eq hok (by rw [List.drop_zero]; omega)⟩ ?_
 rintro ⟨i, s1⟩ a w hK hM hR
 replace hK : Knows a 71 [(16, .int .i64 ((es.length : Nat) : Int)), (15, .slice A es.length c), (10, .bool false), (0, .slice A es.length c), (1, .slice B ss.length e), (2, vN d), (3, .func (.func fe) #[] ce), (4, .func (.func fs) #[] cs), (17, vN i)] := hK
 replace hM : Mem w0 w ((G s1 ++ F)) := hM
 replace hR : i ≤ es.length ∧ exsWk f (es.drop i) d s1 = exsWk f es d s ∧ ok (exsSz (es.drop i) + (smsSz ss + k)) s1 := hR
 refine wp_seq ?_
 refine rg1 (by kernel_rfl) ?_
 by_cases h1 : (((i : Nat) : Int) : Int) < ((es.length : Nat) : Int)
 ·refine sP hK 18 (.bool true) (by kernel_rfl) (oB (b := (decide ((((i : Nat) : Int) : Int) < ((es.length : Nat) : Int)))) (by kernel_rfl) (decide_eq_true h1)) fun a hK => ?_
  refine rps ?_
  refine wp_seq ?_
  refine wp_cond_true (hK.get rfl) ?_
  refine wp_skip ?_
  refine wp_seq ?_
  refine wp_block ?_
  refine wp_seq ?_
  refine rg4 (by kernel_rfl) ?_
  obtain ⟨t2, ht2⟩ : ∃ t, es[(i : Nat)]? = some t := ⟨_, List.getElem?_eq_getElem (by omega)⟩
  obtain ⟨at2, At2, -⟩ := ((hT _ _ _ hM).1 _ _ ht2).1
  have ct2 : ∀ (s : σ) (F : List It) (w : World), Mem w0 w (G s ++ F) → CellsAt w (at2.add (i * 4)) (cE t2) ∧ ExAt w t2 := fun s F w h => by obtain ⟨⟨a2, h1, h2⟩, h3⟩ := (hT s F w h).1 _ _ ht2; rw [At2] at h1; obtain rfl := Option.some.inj h1; exact ⟨h2, h3⟩
  refine sP hK 19 (.pointer (some (at2.add (i * 4)))) (by kernel_rfl) (rX (k := i) (s := 4) rfl rfl At2 rfl Tryz.underlying26 (by kernel_rfl) (by omega)) fun a hK => ?_
  refine sL hK 20 (vE t2) (by kernel_rfl) rfl rfl ((ct2 _ _ _ hM).1) (by kernel_rfl) fun a hK => ?_
  refine sA hK hM 12 28 [.int .i64 0, .int .i64 0, Str [], .slice none 0 0] (fun b => pA b 0) (by kernel_rfl) (by kernel_rfl) fun b3 a w hK hM => ?_
  refine sS hK hM 0 (cE t2) (by kernel_rfl) rfl rfl rfl rfl (by kernel_rfl) fun w hM => ?_
  replace hM := hM.to (.row b3 28 (cE t2) :: (G s1 ++ F)) (by kernel_rfl)
  refine rps ?_
  refine wp_seq ?_
  refine rg15 (by kernel_rfl) ?_
  refine sM hK 21 3 (by kernel_rfl) (.inl rfl) rfl fun a hK => ?_
  refine sL hK 22 (vE t2) (by kernel_rfl) rfl rfl ((hM.row 0 rfl).cells 0 4) (by kernel_rfl) fun a hK => ?_
  refine sM hK 23 2 (by kernel_rfl) (.inl rfl) rfl fun a hK => ?_
  have hc7m : Mem w0 _ (G s1 ++ ([.row b3 28 (cE t2)] ++ F)) := (hM.perm (perm_mid [.row b3 28 (cE t2)] (G s1) F))
  have hc7 := hE.call t2 d (exsSz t2.ks + (exsSz (es.drop (i + 1)) + (smsSz ss + k))) s1 ([.row b3 28 (cE t2)] ++ F) _ hc7m (ct2 _ _ _ hc7m).2 (exsSh_mem hs1 (List.mem_of_getElem? ht2)) (by omega) (ok_eq hR.2.2 (by have h1 := exsSz_drop ht2; have h2 := sz_eq t2; omega))
  replace hc7 := hc7.mono (fun _ _ h => Gives.perm (g' := fun r : Bool × σ => [.row b3 28 (cE t2)] ++ (G r.2 ++ F)) (fun r => perm_mid2 [.row b3 28 (cE t2)] (G r.2) F) h)
  refine stepCallIn hK 24 _ (by kernel_rfl) (rC hE.enters rfl rfl (by kernel_rfl)) (hc7) ?_
  rintro ⟨r4, q5⟩ a w hR6 hK hM
  replace hM := hM.to (.row b3 28 (cE t2) :: (G q5 ++ F)) (by kernel_rfl)
  rcases Bool.eq_false_or_eq_true (!r4) with h9 | h9
  ·refine sP hK 25 (.bool true) (by kernel_rfl) (oB (b := (!r4)) (by kernel_rfl) h9) fun a hK => ?_
   refine sM hK 26 25 (by kernel_rfl) (.inl rfl) rfl fun a hK => ?_
   refine sN hK 27 (by kernel_rfl) fun a hK => ?_
   refine sN hK 28 (by kernel_rfl) fun a hK => ?_
   refine sN hK 29 (by kernel_rfl) fun a hK => ?_
   refine sN hK 30 (by kernel_rfl) fun a hK => ?_
   refine sN hK 31 (by kernel_rfl) fun a hK => ?_
   refine sN hK 32 (by kernel_rfl) fun a hK => ?_
   refine sN hK 33 (by kernel_rfl) fun a hK => ?_
   refine sN hK 34 (by kernel_rfl) fun a hK => ?_
   refine sP hK 35 (.bool true) (by kernel_rfl) (by kernel_rfl) fun a hK => ?_
   refine rps ?_
   refine wp_cond_true (hK.get rfl) ?_
   refine wp_seq ?_
   refine rg1 (by kernel_rfl) ?_
   refine sP hK 10 (.bool false) (by kernel_rfl) (by kernel_rfl) fun a hK => ?_
   refine rps ?_
   refine wp_ret ?_
   exact ret_t hK rfl (u := (.bool false)) rfl (⟨(false, q5), rfl, (hM.drop 1), (walkW_stop (exs_stop ht2 hR.2.1 (ex_stop1 (pair_of hR6 (bf_of h9)).symm))).symm, fun h => by cases h⟩)
  ·refine sP hK 25 (.bool false) (by kernel_rfl) (oB (b := (!r4)) (by kernel_rfl) h9) fun a hK => ?_
   refine sM hK 26 25 (by kernel_rfl) (.inl rfl) rfl fun a hK => ?_
   refine sP hK 27 (pA b3 3) (by kernel_rfl) (by kernel_rfl) fun a hK => ?_
   refine sL hK 28 (.slice t2.A t2.ks.length t2.c) (by kernel_rfl) rfl rfl ((hM.row 0 rfl).cells 3 1) (by kernel_rfl) fun a hK => ?_
   refine sM hK 29 2 (by kernel_rfl) (.inl rfl) rfl fun a hK => ?_
   refine sP hK 30 (.int .i64 (((d + 1) : Nat) : Int)) (by kernel_rfl) (run_addN (i := d) (j := 1) rfl rfl rfl (by omega)) fun a hK => ?_
   refine sM hK 31 3 (by kernel_rfl) (.inl rfl) rfl fun a hK => ?_
   refine sM hK 32 4 (by kernel_rfl) (.inl rfl) rfl fun a hK => ?_
   have hc13m : Mem w0 _ (G q5 ++ ([.row b3 28 (cE t2)] ++ F)) := (hM.perm (perm_mid [.row b3 28 (cE t2)] (G q5) F))
   have hc13 := ih t2.ks [] t2.A t2.c none 0 (d + 1) (exsSz (es.drop (i + 1)) + (smsSz ss + k)) q5 ([.row b3 28 (cE t2)] ++ F) _ (by have h1 := exsSz_mem (List.mem_of_getElem? ht2); have h2 := sz_eq t2; simp only [smsSz]; omega) (by omega) (fun s F w h => ⟨(ct2 s F w h).2.kids, fun k x hx => by simp at hx⟩) (ex_sh (exsSh_mem hs1 (List.mem_of_getElem? ht2))).2 rfl hc13m (ok_eq (hE.next hR.2.2 (k := (exsSz t2.ks + (exsSz (es.drop (i + 1)) + (smsSz ss + k)))) (by have h1 := exsSz_drop ht2; have h2 := sz_eq t2; omega) (pair_of hR6 (bt_of h9)).symm) (by simp only [smsSz]; omega))
   replace hc13 := hc13.mono (fun _ _ h => Gives.perm (g' := fun r : Bool × σ => [.row b3 28 (cE t2)] ++ (G r.2 ++ F)) (fun r => perm_mid2 [.row b3 28 (cE t2)] (G r.2) F) h)
   refine stepCallIn hK 33 #[.slice t2.A t2.ks.length t2.c, .slice none 0 0, .int .i64 (((d + 1) : Nat) : Int), .func (.func fe) #[] ce, .func (.func fs) #[] cs] (by kernel_rfl) (rC en_ast_walk rfl rfl (by kernel_rfl)) (hc13) ?_
   rintro ⟨r10, q11⟩ a w hR12 hK hM
   replace hM := hM.to (.row b3 28 (cE t2) :: (G q11 ++ F)) (by kernel_rfl)
   rcases Bool.eq_false_or_eq_true (!r10) with h15 | h15
   ·refine sP hK 34 (.bool true) (by kernel_rfl) (oB (b := (!r10)) (by kernel_rfl) h15) fun a hK => ?_
    refine sP hK 35 (.bool true) (by kernel_rfl) (by kernel_rfl) fun a hK => ?_
    refine rps ?_
    refine wp_cond_true (hK.get rfl) ?_
    refine wp_seq ?_
    refine rg1 (by kernel_rfl) ?_
    refine sP hK 10 (.bool false) (by kernel_rfl) (by kernel_rfl) fun a hK => ?_
    refine rps ?_
    refine wp_ret ?_
    exact ret_t hK rfl (u := (.bool false)) rfl (⟨(false, q11), rfl, (hM.drop 1), (walkW_stop (exs_stop ht2 hR.2.1 (ex_kids (pair_of hR6 (bt_of h9)).symm ((walkW_e.symm.trans (pair_of hR12.1 (bf_of h15)).symm))))).symm, fun h => by cases h⟩)
   ·refine sP hK 34 (.bool false) (by kernel_rfl) (oB (b := (!r10)) (by kernel_rfl) h15) fun a hK => ?_
    refine sP hK 35 (.bool false) (by kernel_rfl) (by kernel_rfl) fun a hK => ?_
    refine rps ?_
    refine wp_cond_false (hK.get rfl) ?_
    refine wp_skip ?_
    refine rg2 (by kernel_rfl) ?_
    refine sP hK 36 (.int .i64 (((i + 1) : Nat) : Int)) (by kernel_rfl) (run_addN (i := i) (j := 1) rfl rfl rfl (by omega)) fun a hK => ?_
    refine sM hK 17 36 (by kernel_rfl) (.inl rfl) rfl fun a hK => ?_
    refine rps ?_
    have hRn : (i + 1) ≤ es.length ∧ exsWk f (es.drop (i + 1)) d q11 = exsWk f es d s ∧ ok (exsSz (es.drop (i + 1)) + (smsSz ss + k)) q11 := ⟨by omega, exs_next ht2 hR.2.1 (ex_kids (pair_of hR6 (bt_of h9)).symm ((walkW_e.symm.trans (pair_of hR12.1 (bt_of h15)).symm))), hR12.2 (bt_of h15)⟩
    have hmn : es.length - (i + 1) < es.length - i := by omega
    exact ⟨(i + 1, q11), hK.sub ⟨rfl, rfl, rfl, rfl, rfl, rfl, rfl, rfl, rfl, trivial⟩, (hM.drop 1), hRn, hmn⟩
 ·refine sP hK 18 (.bool false) (by kernel_rfl) (oB (b := (decide ((((i : Nat) : Int) : Int) < ((es.length : Nat) : Int)))) (by kernel_rfl) (decide_eq_false h1)) fun a hK => ?_
  refine rps ?_
  refine wp_seq ?_
  refine wp_cond_false (hK.get rfl) ?_
  refine wp_exit (exit_then (exit_then (exit_here 0 ?_)))
  refine wp_seq ?_
  refine wp_seq ?_
  refine rg3 (by kernel_rfl) ?_
  refine sM hK 37 1 (by kernel_rfl) (.inl rfl) rfl fun a hK => ?_
  refine sP hK 38 (.int .i64 ((ss.length : Nat) : Int)) (by kernel_rfl) (by kernel_rfl) fun a hK => ?_
  refine sP hK 39 (.int .i64 0) (by kernel_rfl) (by kernel_rfl) fun a hK => ?_
  refine rps ?_
  refine wp_block ?_
  have he0 : exsWk f es d s = (true, s1) := by rw [← hR.2.1, exs_end (by omega)]
  have hei : exsSz (es.drop i) = 0 := exsSz_end (by omega)
  refine wLX (fun x : Nat × σ => [(38, .int .i64 ((ss.length : Nat) : Int)), (37, .slice B ss.length e), (18, .bool false), (16, .int .i64 ((es.length : Nat) : Int)), (15, .slice A es.length c), (10, .bool false), (0, .slice A es.length c), (1, .slice B ss.length e), (2, vN d), (3, .func (.func fe) #[] ce), (4, .func (.func fs) #[] cs), (17, vN i), (39, .int .i64 ((x.1 : Nat) : Int))]) (fun x : Nat × σ => ((G x.2 ++ F))) (fun x : Nat × σ => x.1 ≤ ss.length ∧ smsWk f g (ss.drop x.1) d x.2 = walkW f g es ss d s ∧ ok (smsSz (ss.drop x.1) + k) x.2) (fun x : Nat × σ => ss.length - x.1) (0, s1) (hK.sub ⟨rfl, rfl, rfl, rfl, rfl, rfl, rfl, rfl, rfl, rfl, rfl, rfl, rfl, trivial⟩) hM ⟨Nat.zero_le _, (walkW_go he0).symm, ok_eq hR.2.2 (by rw [hei, List.drop_zero]; omega)⟩ ?_
  rintro ⟨j, s3⟩ a w hK hM hR
  replace hK : Knows a 71 [(38, .int .i64 ((ss.length : Nat) : Int)), (37, .slice B ss.length e), (18, .bool false), (16, .int .i64 ((es.length : Nat) : Int)), (15, .slice A es.length c), (10, .bool false), (0, .slice A es.length c), (1, .slice B ss.length e), (2, vN d), (3, .func (.func fe) #[] ce), (4, .func (.func fs) #[] cs), (17, vN i), (39, vN j)] := hK
  replace hM : Mem w0 w ((G s3 ++ F)) := hM
  replace hR : j ≤ ss.length ∧ smsWk f g (ss.drop j) d s3 = walkW f g es ss d s ∧ ok (smsSz (ss.drop j) + k) s3 := hR
  refine wp_seq ?_
  refine rg1 (by kernel_rfl) ?_
  by_cases h16 : (((j : Nat) : Int) : Int) < ((ss.length : Nat) : Int)
  ·refine sP hK 40 (.bool true) (by kernel_rfl) (oB (b := (decide ((((j : Nat) : Int) : Int) < ((ss.length : Nat) : Int)))) (by kernel_rfl) (decide_eq_true h16)) fun a hK => ?_
   refine rps ?_
   refine wp_seq ?_
   refine wp_cond_true (hK.get rfl) ?_
   refine wp_skip ?_
   refine wp_seq ?_
   refine wp_block ?_
   refine wp_seq ?_
   refine rg4 (by kernel_rfl) ?_
   obtain ⟨t17, ht17⟩ : ∃ t, ss[(j : Nat)]? = some t := ⟨_, List.getElem?_eq_getElem (by omega)⟩
   obtain ⟨at17, At17, -⟩ := ((hT _ _ _ hM).2 _ _ ht17).1
   have ct17 : ∀ (s : σ) (F : List It) (w : World), Mem w0 w (G s ++ F) → CellsAt w (at17.add (j * 7)) (cS t17) ∧ SmAt w t17 := fun s F w h => by obtain ⟨⟨a2, h1, h2⟩, h3⟩ := (hT s F w h).2 _ _ ht17; rw [At17] at h1; obtain rfl := Option.some.inj h1; exact ⟨h2, h3⟩
   refine sP hK 41 (.pointer (some (at17.add (j * 7)))) (by kernel_rfl) (rX (k := j) (s := 7) rfl rfl At17 rfl Tryz.underlying38 (by kernel_rfl) (by omega)) fun a hK => ?_
   refine sL hK 42 (vS t17) (by kernel_rfl) rfl rfl ((ct17 _ _ _ hM).1) (by kernel_rfl) fun a hK => ?_
   refine sA hK hM 14 64 [.int .i64 0, Str [], Str [], .int .i64 0, .slice none 0 0, .slice none 0 0, .slice none 0 0] (fun b => pA b 0) (by kernel_rfl) (by kernel_rfl) fun b18 a w hK hM => ?_
   refine sS hK hM 0 (cS t17) (by kernel_rfl) rfl rfl rfl rfl (by kernel_rfl) fun w hM => ?_
   replace hM := hM.to (.row b18 64 (cS t17) :: (G s3 ++ F)) (by kernel_rfl)
   refine rps ?_
   refine wp_seq ?_
   refine rg27 (by kernel_rfl) ?_
   refine sM hK 43 4 (by kernel_rfl) (.inl rfl) rfl fun a hK => ?_
   refine sL hK 44 (vS t17) (by kernel_rfl) rfl rfl ((hM.row 0 rfl).cells 0 7) (by kernel_rfl) fun a hK => ?_
   refine sM hK 45 2 (by kernel_rfl) (.inl rfl) rfl fun a hK => ?_
   have hc22m : Mem w0 _ (G s3 ++ ([.row b18 64 (cS t17)] ++ F)) := (hM.perm (perm_mid [.row b18 64 (cS t17)] (G s3) F))
   have hc22 := hS.call t17 d (exsSz t17.es + smsSz t17.th + (smsSz t17.el + (smsSz (ss.drop (j + 1)) + k))) s3 ([.row b18 64 (cS t17)] ++ F) _ hc22m (ct17 _ _ _ hc22m).2 (smsSh_mem hs2 (List.mem_of_getElem? ht17)) (by omega) (ok_eq hR.2.2 (by have h1 := smsSz_drop ht17; have h2 := sm_sz t17; omega))
   replace hc22 := hc22.mono (fun _ _ h => Gives.perm (g' := fun r : Bool × σ => [.row b18 64 (cS t17)] ++ (G r.2 ++ F)) (fun r => perm_mid2 [.row b18 64 (cS t17)] (G r.2) F) h)
   refine stepCallIn hK 46 _ (by kernel_rfl) (rC hS.enters rfl rfl (by kernel_rfl)) (hc22) ?_
   rintro ⟨r19, q20⟩ a w hR21 hK hM
   replace hM := hM.to (.row b18 64 (cS t17) :: (G q20 ++ F)) (by kernel_rfl)
   rcases Bool.eq_false_or_eq_true (!r19) with h24 | h24
   ·refine sP hK 47 (.bool true) (by kernel_rfl) (oB (b := (!r19)) (by kernel_rfl) h24) fun a hK => ?_
    refine sM hK 48 47 (by kernel_rfl) (.inl rfl) rfl fun a hK => ?_
    refine sN hK 49 (by kernel_rfl) fun a hK => ?_
    refine sN hK 50 (by kernel_rfl) fun a hK => ?_
    refine sN hK 51 (by kernel_rfl) fun a hK => ?_
    refine sN hK 52 (by kernel_rfl) fun a hK => ?_
    refine sN hK 53 (by kernel_rfl) fun a hK => ?_
    refine sN hK 54 (by kernel_rfl) fun a hK => ?_
    refine sN hK 55 (by kernel_rfl) fun a hK => ?_
    refine sN hK 56 (by kernel_rfl) fun a hK => ?_
    refine sN hK 57 (by kernel_rfl) fun a hK => ?_
    refine sN hK 58 (by kernel_rfl) fun a hK => ?_
    refine sP hK 59 (.bool true) (by kernel_rfl) (by kernel_rfl) fun a hK => ?_
    refine sM hK 60 59 (by kernel_rfl) (.inl rfl) rfl fun a hK => ?_
    refine sN hK 61 (by kernel_rfl) fun a hK => ?_
    refine sN hK 62 (by kernel_rfl) fun a hK => ?_
    refine sN hK 63 (by kernel_rfl) fun a hK => ?_
    refine sN hK 64 (by kernel_rfl) fun a hK => ?_
    refine sN hK 65 (by kernel_rfl) fun a hK => ?_
    refine sN hK 66 (by kernel_rfl) fun a hK => ?_
    refine sN hK 67 (by kernel_rfl) fun a hK => ?_
    refine sN hK 68 (by kernel_rfl) fun a hK => ?_
    refine sP hK 69 (.bool true) (by kernel_rfl) (by kernel_rfl) fun a hK => ?_
    refine rps ?_
    refine wp_cond_true (hK.get rfl) ?_
    refine wp_seq ?_
    refine rg1 (by kernel_rfl) ?_
    refine sP hK 10 (.bool false) (by kernel_rfl) (by kernel_rfl) fun a hK => ?_
    refine rps ?_
    refine wp_ret ?_
    exact ret_t hK rfl (u := (.bool false)) rfl (⟨(false, q20), rfl, (hM.drop 1), (sms_stop ht17 hR.2.1 (sm_stop1 (pair_of hR21 (bf_of h24)).symm)).symm, fun h => by cases h⟩)
   ·refine sP hK 47 (.bool false) (by kernel_rfl) (oB (b := (!r19)) (by kernel_rfl) h24) fun a hK => ?_
    refine sM hK 48 47 (by kernel_rfl) (.inl rfl) rfl fun a hK => ?_
    refine sP hK 49 (pA b18 4) (by kernel_rfl) (by kernel_rfl) fun a hK => ?_
    refine sL hK 50 (.slice t17.A1 t17.es.length t17.c1) (by kernel_rfl) rfl rfl ((hM.row 0 rfl).cells 4 1) (by kernel_rfl) fun a hK => ?_
    refine sP hK 51 (pA b18 5) (by kernel_rfl) (by kernel_rfl) fun a hK => ?_
    refine sL hK 52 (.slice t17.A2 t17.th.length t17.c2) (by kernel_rfl) rfl rfl ((hM.row 0 rfl).cells 5 1) (by kernel_rfl) fun a hK => ?_
    refine sM hK 53 2 (by kernel_rfl) (.inl rfl) rfl fun a hK => ?_
    refine sP hK 54 (.int .i64 (((d + 1) : Nat) : Int)) (by kernel_rfl) (run_addN (i := d) (j := 1) rfl rfl rfl (by omega)) fun a hK => ?_
    refine sM hK 55 3 (by kernel_rfl) (.inl rfl) rfl fun a hK => ?_
    refine sM hK 56 4 (by kernel_rfl) (.inl rfl) rfl fun a hK => ?_
    have hc28m : Mem w0 _ (G q20 ++ ([.row b18 64 (cS t17)] ++ F)) := (hM.perm (perm_mid [.row b18 64 (cS t17)] (G q20) F))
    have hc28 := ih t17.es t17.th t17.A1 t17.c1 t17.A2 t17.c2 (d + 1) (smsSz t17.el + (smsSz (ss.drop (j + 1)) + k)) q20 ([.row b18 64 (cS t17)] ++ F) _ (by have h1 := smsSz_mem (List.mem_of_getElem? ht17); have h2 := sm_sz t17; omega) (by omega) (fun s F w h => ⟨(ct17 s F w h).2.exprs, (ct17 s F w h).2.thn⟩) (sm_sh (smsSh_mem hs2 (List.mem_of_getElem? ht17))).2.2.1 (sm_sh (smsSh_mem hs2 (List.mem_of_getElem? ht17))).2.2.2.1 hc28m (ok_eq (hS.next hR.2.2 (k := (exsSz t17.es + smsSz t17.th + (smsSz t17.el + (smsSz (ss.drop (j + 1)) + k)))) (by have h1 := smsSz_drop ht17; have h2 := sm_sz t17; omega) (pair_of hR21 (bt_of h24)).symm) (by omega))
    replace hc28 := hc28.mono (fun _ _ h => Gives.perm (g' := fun r : Bool × σ => [.row b18 64 (cS t17)] ++ (G r.2 ++ F)) (fun r => perm_mid2 [.row b18 64 (cS t17)] (G r.2) F) h)
    refine stepCallIn hK 57 #[.slice t17.A1 t17.es.length t17.c1, .slice t17.A2 t17.th.length t17.c2, .int .i64 (((d + 1) : Nat) : Int), .func (.func fe) #[] ce, .func (.func fs) #[] cs] (by kernel_rfl) (rC en_ast_walk rfl rfl (by kernel_rfl)) (hc28) ?_
    rintro ⟨r25, q26⟩ a w hR27 hK hM
    replace hM := hM.to (.row b18 64 (cS t17) :: (G q26 ++ F)) (by kernel_rfl)
    rcases Bool.eq_false_or_eq_true (!r25) with h30 | h30
    ·refine sP hK 58 (.bool true) (by kernel_rfl) (oB (b := (!r25)) (by kernel_rfl) h30) fun a hK => ?_
     refine sP hK 59 (.bool true) (by kernel_rfl) (by kernel_rfl) fun a hK => ?_
     refine sM hK 60 59 (by kernel_rfl) (.inl rfl) rfl fun a hK => ?_
     refine sN hK 61 (by kernel_rfl) fun a hK => ?_
     refine sN hK 62 (by kernel_rfl) fun a hK => ?_
     refine sN hK 63 (by kernel_rfl) fun a hK => ?_
     refine sN hK 64 (by kernel_rfl) fun a hK => ?_
     refine sN hK 65 (by kernel_rfl) fun a hK => ?_
     refine sN hK 66 (by kernel_rfl) fun a hK => ?_
     refine sN hK 67 (by kernel_rfl) fun a hK => ?_
     refine sN hK 68 (by kernel_rfl) fun a hK => ?_
     refine sP hK 69 (.bool true) (by kernel_rfl) (by kernel_rfl) fun a hK => ?_
     refine rps ?_
     refine wp_cond_true (hK.get rfl) ?_
     refine wp_seq ?_
     refine rg1 (by kernel_rfl) ?_
     refine sP hK 10 (.bool false) (by kernel_rfl) (by kernel_rfl) fun a hK => ?_
     refine rps ?_
     refine wp_ret ?_
     exact ret_t hK rfl (u := (.bool false)) rfl (⟨(false, q26), rfl, (hM.drop 1), (sms_stop ht17 hR.2.1 (sm_th (pair_of hR21 (bt_of h24)).symm (pair_of hR27.1 (bf_of h30)).symm)).symm, fun h => by cases h⟩)
    ·refine sP hK 58 (.bool false) (by kernel_rfl) (oB (b := (!r25)) (by kernel_rfl) h30) fun a hK => ?_
     refine sP hK 59 (.bool false) (by kernel_rfl) (by kernel_rfl) fun a hK => ?_
     refine sM hK 60 59 (by kernel_rfl) (.inl rfl) rfl fun a hK => ?_
     refine sP hK 61 (pA b18 6) (by kernel_rfl) (by kernel_rfl) fun a hK => ?_
     refine sL hK 62 (.slice t17.A3 t17.el.length t17.c3) (by kernel_rfl) rfl rfl ((hM.row 0 rfl).cells 6 1) (by kernel_rfl) fun a hK => ?_
     refine sM hK 63 2 (by kernel_rfl) (.inl rfl) rfl fun a hK => ?_
     refine sP hK 64 (.int .i64 (((d + 1) : Nat) : Int)) (by kernel_rfl) (run_addN (i := d) (j := 1) rfl rfl rfl (by omega)) fun a hK => ?_
     refine sM hK 65 3 (by kernel_rfl) (.inl rfl) rfl fun a hK => ?_
     refine sM hK 66 4 (by kernel_rfl) (.inl rfl) rfl fun a hK => ?_
     have hc34m : Mem w0 _ (G q26 ++ ([.row b18 64 (cS t17)] ++ F)) := (hM.perm (perm_mid [.row b18 64 (cS t17)] (G q26) F))
     have hc34 := ih [] t17.el none 0 t17.A3 t17.c3 (d + 1) (smsSz (ss.drop (j + 1)) + k) q26 ([.row b18 64 (cS t17)] ++ F) _ (by have h1 := smsSz_mem (List.mem_of_getElem? ht17); have h2 := sm_sz t17; simp only [exsSz]; omega) (by omega) (fun s F w h => ⟨fun k x hx => by simp at hx, (ct17 s F w h).2.els⟩) rfl (sm_sh (smsSh_mem hs2 (List.mem_of_getElem? ht17))).2.2.2.2 hc34m (ok_eq (hR27.2 (bt_of h30)) (by simp only [exsSz]; omega))
     replace hc34 := hc34.mono (fun _ _ h => Gives.perm (g' := fun r : Bool × σ => [.row b18 64 (cS t17)] ++ (G r.2 ++ F)) (fun r => perm_mid2 [.row b18 64 (cS t17)] (G r.2) F) h)
     refine stepCallIn hK 67 #[.slice none 0 0, .slice t17.A3 t17.el.length t17.c3, .int .i64 (((d + 1) : Nat) : Int), .func (.func fe) #[] ce, .func (.func fs) #[] cs] (by kernel_rfl) (rC en_ast_walk rfl rfl (by kernel_rfl)) (hc34) ?_
     rintro ⟨r31, q32⟩ a w hR33 hK hM
     replace hM := hM.to (.row b18 64 (cS t17) :: (G q32 ++ F)) (by kernel_rfl)
     rcases Bool.eq_false_or_eq_true (!r31) with h36 | h36
     ·refine sP hK 68 (.bool true) (by kernel_rfl) (oB (b := (!r31)) (by kernel_rfl) h36) fun a hK => ?_
      refine sP hK 69 (.bool true) (by kernel_rfl) (by kernel_rfl) fun a hK => ?_
      refine rps ?_
      refine wp_cond_true (hK.get rfl) ?_
      refine wp_seq ?_
      refine rg1 (by kernel_rfl) ?_
      refine sP hK 10 (.bool false) (by kernel_rfl) (by kernel_rfl) fun a hK => ?_
      refine rps ?_
      refine wp_ret ?_
      exact ret_t hK rfl (u := (.bool false)) rfl (⟨(false, q32), rfl, (hM.drop 1), (sms_stop ht17 hR.2.1 (sm_el (pair_of hR21 (bt_of h24)).symm (pair_of hR27.1 (bt_of h30)).symm (walkW_s.symm.trans (pair_of hR33.1 (bf_of h36)).symm))).symm, fun h => by cases h⟩)
     ·refine sP hK 68 (.bool false) (by kernel_rfl) (oB (b := (!r31)) (by kernel_rfl) h36) fun a hK => ?_
      refine sP hK 69 (.bool false) (by kernel_rfl) (by kernel_rfl) fun a hK => ?_
      refine rps ?_
      refine wp_cond_false (hK.get rfl) ?_
      refine wp_skip ?_
      refine rg2 (by kernel_rfl) ?_
      refine sP hK 70 (.int .i64 (((j + 1) : Nat) : Int)) (by kernel_rfl) (run_addN (i := j) (j := 1) rfl rfl rfl (by omega)) fun a hK => ?_
      refine sM hK 39 70 (by kernel_rfl) (.inl rfl) rfl fun a hK => ?_
      refine rps ?_
      have hRn : (j + 1) ≤ ss.length ∧ smsWk f g (ss.drop (j + 1)) d q32 = walkW f g es ss d s ∧ ok (smsSz (ss.drop (j + 1)) + k) q32 := ⟨by omega, sms_next ht17 hR.2.1 (sm_el (pair_of hR21 (bt_of h24)).symm (pair_of hR27.1 (bt_of h30)).symm (walkW_s.symm.trans (pair_of hR33.1 (bt_of h36)).symm)), hR33.2 (bt_of h36)⟩
      have hmn : ss.length - (j + 1) < ss.length - j := by omega
      exact ⟨(j + 1, q32), hK.sub ⟨rfl, rfl, rfl, rfl, rfl, rfl, rfl, rfl, rfl, rfl, rfl, rfl, rfl, trivial⟩, (hM.drop 1), hRn, hmn⟩
  ·refine sP hK 40 (.bool false) (by kernel_rfl) (oB (b := (decide ((((j : Nat) : Int) : Int) < ((ss.length : Nat) : Int)))) (by kernel_rfl) (decide_eq_false h16)) fun a hK => ?_
   refine rps ?_
   refine wp_seq ?_
   refine wp_cond_false (hK.get rfl) ?_
   refine wp_exit (exit_then (exit_then (exit_here 2 ?_)))
   refine wp_seq ?_
   refine rg1 (by kernel_rfl) ?_
   refine sP hK 10 (.bool true) (by kernel_rfl) (by kernel_rfl) fun a hK => ?_
   refine rps ?_
   refine wp_ret ?_
   exact ret_t hK rfl (u := (.bool true)) rfl (⟨(true, s3), rfl, hM, (hR.2.1.symm.trans (sms_end (by omega))).symm, fun _ => ok_eq hR.2.2 (by rw [smsSz_end (by omega)]; omega)⟩)
theorem ast_walk {σ : Type} {w0 : World} {G : σ → List It} {ok : Nat → σ → Prop} {f : Ex → Nat → σ → Bool × σ} {g : Sm → Nat → σ → Bool × σ} {fe fs : FuncId} {ce cs : Array Value} (hE : StepE w0 G ok f fe ce) (hS : StepS w0 G ok g fs cs) (es : List Ex) (ss : List Sm) (A : Option Addr) (c : Nat) (B : Option Addr) (e d k : Nat) (s : σ) (F : List It) (w1 : World) (hsz : d + (exsSz es + smsSz ss) < 1000000) (hT : ∀ (s : σ) (F : List It) (w : World), Mem w0 w (G s ++ F) → ExsAt w A es ∧ SmsAt w B ss) (h1 : exsSh es = true) (h2 : smsSh ss = true) (hM0 : Mem w0 w1 (G s ++ F)) (hok : ok (exsSz es + smsSz ss + k) s) : Calls Tryz.prog 36 #[.slice A es.length c, .slice B ss.length e, vN d, .func (.func fe) #[] ce, .func (.func fs) #[] cs] w1 (Gives w0 (fun r : Bool × σ => .bool r.1) (fun r => G r.2 ++ F) fun r => r = walkW f g es ss d s ∧ (r.1 = true → ok k r.2)) :=
 ast_walk_n hE hS _ es ss A c B e d k s F w1 (Nat.lt_succ_self _) (by omega) hT h1 h2 hM0 hok
end Go.Proofs.YtiigncmpbkfhmaaGreatDoor
namespace Go.Proofs.YtiigncmpbkfhmaaGreatDoor
open Go Go.RowKit
theorem en_ast_walkThreads : Enters Tryz.prog 54 := enters_of Tryz.func54 (by kernel_rfl) rfl
set_option maxRecDepth 100000 in
set_option maxHeartbeats 4000000 in
theorem ast_walkThreads {σ : Type} {w0 : World} {G : σ → List It} {ok : Nat → σ → Prop} {f : Ex → Nat → σ → Bool × σ} {g : Sm → Nat → σ → Bool × σ} {fe fs : FuncId} {ce cs : Array Value} (hE : StepE w0 G ok f fe ce) (hS : StepS w0 G ok g fs cs) (p : Pg) (k : Nat) (s : σ) (F : List It) (w1 : World) (hp : PgAt w0 p) (hsz : thsSz p.ts ≤ 900000) (hsh : pgSh p = true) (hM0 : Mem w0 w1 (G s ++ F)) (hok : ok (thsSz p.ts + k) s) : Calls Tryz.prog 54 #[vG p, .func (.func fe) #[] ce, .func (.func fs) #[] cs] w1 (Gives w0 (fun r : Bool × σ => .bool r.1) (fun r => G r.2 ++ F) fun r => r = thsWk f g p.ts s ∧ (r.1 = true → ok k r.2)) := by
 have hpl := hp.len
 obtain ⟨hshD, hshT⟩ := pg_sh hsh
 refine calls_KM (args := [vG p, .func (.func fe) #[] ce, .func (.func fs) #[] cs]) (n := 22) (env := [(0, vG p), (1, .func (.func fe) #[] ce), (2, .func (.func fs) #[] cs)]) Tryz.func54 rfl rfl rfl ⟨rfl, rfl, rfl, trivial⟩ hM0 fun a w hK hM => ?_
 refine wp_seq ?_
 refine rg2 (by kernel_rfl) ?_
 refine sA hK hM 3 25 [.slice p.A1 p.ds.length p.c1, .slice p.A2 p.ts.length p.c2] (fun b => pA b 0) (by kernel_rfl) (by kernel_rfl) fun b1 a w hK hM => ?_
 refine sP hK 6 (.bool false) (by kernel_rfl) (by kernel_rfl) fun a hK => ?_
 refine rps ?_
 refine wp_seq ?_
 refine wp_seq ?_
 refine rg4 (by kernel_rfl) ?_
 refine sP hK 9 (pA b1 1) (by kernel_rfl) (by kernel_rfl) fun a hK => ?_
 refine sL hK 10 (.slice p.A2 p.ts.length p.c2) (by kernel_rfl) rfl rfl ((hM.row 0 rfl).cells 1 1) (by kernel_rfl) fun a hK => ?_
 refine sP hK 11 (.int .i64 ((p.ts.length : Nat) : Int)) (by kernel_rfl) (by kernel_rfl) fun a hK => ?_
 refine sP hK 12 (.int .i64 0) (by kernel_rfl) (by kernel_rfl) fun a hK => ?_
 refine rps ?_
 refine wp_block ?_
 refine wLX (fun x : Nat × σ => [(11, .int .i64 ((p.ts.length : Nat) : Int)), (10, .slice p.A2 p.ts.length p.c2), (6, .bool false), (3, pA b1 0), (0, vG p), (1, .func (.func fe) #[] ce), (2, .func (.func fs) #[] cs), (12, .int .i64 ((x.1 : Nat) : Int))]) (fun x : Nat × σ => (.row b1 25 [.slice p.A1 p.ds.length p.c1, .slice p.A2 p.ts.length p.c2] :: (G x.2 ++ F))) (fun x : Nat × σ => x.1 ≤ p.ts.length ∧ thsWk f g (p.ts.drop x.1) x.2 = thsWk f g p.ts s ∧ ok (thsSz (p.ts.drop x.1) + k) x.2) (fun x : Nat × σ => p.ts.length - x.1) (0, s) (hK.sub ⟨rfl, rfl, rfl, rfl, rfl, rfl, rfl, rfl, trivial⟩) hM ⟨Nat.zero_le _, rfl, ok_eq hok (by rw [List.drop_zero])⟩ ?_
 rintro ⟨i, s1⟩ a w hK hM hR
 replace hK : Knows a 22 [(11, .int .i64 ((p.ts.length : Nat) : Int)), (10, .slice p.A2 p.ts.length p.c2), (6, .bool false), (3, pA b1 0), (0, vG p), (1, .func (.func fe) #[] ce), (2, .func (.func fs) #[] cs), (12, vN i)] := hK
 replace hM : Mem w0 w (.row b1 25 [.slice p.A1 p.ds.length p.c1, .slice p.A2 p.ts.length p.c2] :: (G s1 ++ F)) := hM
 replace hR : i ≤ p.ts.length ∧ thsWk f g (p.ts.drop i) s1 = thsWk f g p.ts s ∧ ok (thsSz (p.ts.drop i) + k) s1 := hR
 refine wp_seq ?_
 refine rg1 (by kernel_rfl) ?_
 by_cases h2 : (((i : Nat) : Int) : Int) < ((p.ts.length : Nat) : Int)
 ·refine sP hK 13 (.bool true) (by kernel_rfl) (oB (b := (decide ((((i : Nat) : Int) : Int) < ((p.ts.length : Nat) : Int)))) (by kernel_rfl) (decide_eq_true h2)) fun a hK => ?_
  refine rps ?_
  refine wp_seq ?_
  refine wp_cond_true (hK.get rfl) ?_
  refine wp_skip ?_
  refine wp_seq ?_
  refine wp_block ?_
  refine wp_seq ?_
  refine rg3 (by kernel_rfl) ?_
  obtain ⟨t3, ht3⟩ : ∃ t, p.ts[(i : Nat)]? = some t := ⟨_, List.getElem?_eq_getElem (by omega)⟩
  obtain ⟨⟨at3, At3, ct3⟩, et3⟩ := hp.threads _ _ ht3; have nt3 := et3.2
  refine sP hK 14 (.pointer (some (at3.add (i * 1)))) (by kernel_rfl) (rX (k := i) (s := 1) rfl rfl At3 rfl Tryz.underlying23 (by kernel_rfl) (by omega)) fun a hK => ?_
  refine sL hK 15 (.slice t3.A t3.l.length t3.c) (by kernel_rfl) rfl rfl ((ct3.on hM.below)) (by kernel_rfl) fun a hK => ?_
  refine sM hK 8 15 (by kernel_rfl) (.inr rfl) rfl fun a hK => ?_
  refine rps ?_
  refine wp_seq ?_
  refine rg5 (by kernel_rfl) ?_
  refine sM hK 16 8 (by kernel_rfl) (.inl rfl) rfl fun a hK => ?_
  refine sM hK 17 1 (by kernel_rfl) (.inl rfl) rfl fun a hK => ?_
  refine sM hK 18 2 (by kernel_rfl) (.inl rfl) rfl fun a hK => ?_
  have hc7m : Mem w0 _ (G s1 ++ ([.row b1 25 [.slice p.A1 p.ds.length p.c1, .slice p.A2 p.ts.length p.c2]] ++ F)) := (hM.perm (perm_mid [.row b1 25 [.slice p.A1 p.ds.length p.c1, .slice p.A2 p.ts.length p.c2]] (G s1) F))
  have hc7 := ast_walk hE hS [] t3.l none 0 t3.A t3.c 1 (thsSz (p.ts.drop (i + 1)) + k) s1 ([.row b1 25 [.slice p.A1 p.ds.length p.c1, .slice p.A2 p.ts.length p.c2]] ++ F) _ (by have h1 := thsSz_mem ht3; simp only [exsSz]; omega) (fun s F w h => ⟨fun k x hx => by simp at hx, et3.1.on h.below⟩) rfl (hshT _ (List.mem_of_getElem? ht3)) hc7m (ok_eq hR.2.2 (by have h1 := thsSz_drop ht3; simp only [exsSz]; omega))
  replace hc7 := hc7.mono (fun _ _ h => Gives.perm (g' := fun r : Bool × σ => [.row b1 25 [.slice p.A1 p.ds.length p.c1, .slice p.A2 p.ts.length p.c2]] ++ (G r.2 ++ F)) (fun r => perm_mid2 [.row b1 25 [.slice p.A1 p.ds.length p.c1, .slice p.A2 p.ts.length p.c2]] (G r.2) F) h)
  refine stepCallIn hK 19 #[.slice none 0 0, .slice t3.A t3.l.length t3.c, .int .i64 1, .func (.func fe) #[] ce, .func (.func fs) #[] cs] (by kernel_rfl) (rC en_ast_walk rfl rfl (by kernel_rfl)) (hc7) ?_
  rintro ⟨r4, q5⟩ a w hR6 hK hM
  replace hM := hM.to (.row b1 25 [.slice p.A1 p.ds.length p.c1, .slice p.A2 p.ts.length p.c2] :: (G q5 ++ F)) (by kernel_rfl)
  rcases Bool.eq_false_or_eq_true (!r4) with h9 | h9
  ·refine sP hK 20 (.bool true) (by kernel_rfl) (oB (b := (!r4)) (by kernel_rfl) h9) fun a hK => ?_
   refine rps ?_
   refine wp_cond_true (hK.get rfl) ?_
   refine wp_seq ?_
   refine rg1 (by kernel_rfl) ?_
   refine sP hK 6 (.bool false) (by kernel_rfl) (by kernel_rfl) fun a hK => ?_
   refine rps ?_
   refine wp_ret ?_
   exact ret_t hK rfl (u := (.bool false)) rfl (⟨(false, q5), rfl, (hM.drop 1), (ths_stop ht3 hR.2.1 (walkW_s.symm.trans (pair_of hR6.1 (bf_of h9)).symm)).symm, fun h => by cases h⟩)
  ·refine sP hK 20 (.bool false) (by kernel_rfl) (oB (b := (!r4)) (by kernel_rfl) h9) fun a hK => ?_
   refine rps ?_
   refine wp_cond_false (hK.get rfl) ?_
   refine wp_skip ?_
   refine rg2 (by kernel_rfl) ?_
   refine sP hK 21 (.int .i64 (((i + 1) : Nat) : Int)) (by kernel_rfl) (run_addN (i := i) (j := 1) rfl rfl rfl (by omega)) fun a hK => ?_
   refine sM hK 12 21 (by kernel_rfl) (.inl rfl) rfl fun a hK => ?_
   refine rps ?_
   have hRn : (i + 1) ≤ p.ts.length ∧ thsWk f g (p.ts.drop (i + 1)) q5 = thsWk f g p.ts s ∧ ok (thsSz (p.ts.drop (i + 1)) + k) q5 := ⟨by omega, ths_next ht3 hR.2.1 (walkW_s.symm.trans (pair_of hR6.1 (bt_of h9)).symm), hR6.2 (bt_of h9)⟩
   have hmn : p.ts.length - (i + 1) < p.ts.length - i := by omega
   exact ⟨(i + 1, q5), hK.sub ⟨rfl, rfl, rfl, rfl, rfl, rfl, rfl, rfl, trivial⟩, hM, hRn, hmn⟩
 ·refine sP hK 13 (.bool false) (by kernel_rfl) (oB (b := (decide ((((i : Nat) : Int) : Int) < ((p.ts.length : Nat) : Int)))) (by kernel_rfl) (decide_eq_false h2)) fun a hK => ?_
  refine rps ?_
  refine wp_seq ?_
  refine wp_cond_false (hK.get rfl) ?_
  refine wp_exit (exit_then (exit_then (exit_here 0 ?_)))
  refine wp_seq ?_
  refine rg1 (by kernel_rfl) ?_
  refine sP hK 6 (.bool true) (by kernel_rfl) (by kernel_rfl) fun a hK => ?_
  refine rps ?_
  refine wp_ret ?_
  exact ret_t hK rfl (u := (.bool true)) rfl (⟨(true, s1), rfl, (hM.drop 1), (hR.2.1.symm.trans (ths_end (by omega))).symm, fun _ => ok_eq hR.2.2 (by rw [thsSz_end (by omega)]; omega)⟩)
end Go.Proofs.YtiigncmpbkfhmaaGreatDoor
namespace Go.Proofs.YtiigncmpbkfhmaaGreatDoor
open Go Go.RowKit
theorem en_ast_anyExpr_1 : Enters Tryz.prog 71 := enters_of Tryz.func71 (by kernel_rfl) rfl
theorem en_ast_anyStmt_1 : Enters Tryz.prog 77 := enters_of Tryz.func77 (by kernel_rfl) rfl
theorem en_ast_anyExpr : Enters Tryz.prog 45 := enters_of Tryz.func45 (by kernel_rfl) rfl
theorem en_ast_anyStmt : Enters Tryz.prog 59 := enters_of Tryz.func59 (by kernel_rfl) rfl
theorem en_ast_limits : Enters Tryz.prog 53 := enters_of Tryz.func53 (by kernel_rfl) rfl
theorem en_ast_limits_1 : Enters Tryz.prog 72 := enters_of Tryz.func72 (by kernel_rfl) rfl
theorem en_ast_Size_1 : Enters Tryz.prog 58 := enters_of Tryz.func58 (by kernel_rfl) rfl
theorem en_ast_Deep_1 : Enters Tryz.prog 60 := enters_of Tryz.func60 (by kernel_rfl) rfl
theorem en_ast_Size : Enters Tryz.prog 21 := enters_of Tryz.func21 (by kernel_rfl) rfl
theorem en_ast_Deep : Enters Tryz.prog 22 := enters_of Tryz.func22 (by kernel_rfl) rfl
set_option maxRecDepth 100000 in
set_option maxHeartbeats 4000000 in
theorem any_expr2 {σ : Type} {w0 : World} {G : σ → List It} {ok : Nat → σ → Prop} {h : Nat → σ → Bool × σ} {fd : FuncId} {cd : Array Value} (hD : StepD w0 G ok h fd cd) (bE bS : Nat) : StepE w0 (fun s => .row bE 74 [.func (.func fd) #[] cd] :: .row bS 74 [.func (.func fd) #[] cd] :: G s) ok (fun _ d s => h d s) 71 #[pA bE 0] := by
 refine ⟨en_ast_anyExpr_1, ?_, fun _ d k s h1 h2 => hD.ok d k s h1 h2⟩
 intro e d k s F w1 hM0 he hs hd hok
 replace hM0 : Mem w0 w1 ((.row bE 74 [.func (.func fd) #[] cd] :: .row bS 74 [.func (.func fd) #[] cd] :: (G s ++ F))) := hM0
 refine calls_KM (args := [vE e, vN d, pA bE 0]) (n := 9) (env := [(0, vE e), (1, vN d), (2, pA bE 0)]) Tryz.func71 rfl rfl rfl ⟨rfl, rfl, rfl, trivial⟩ hM0 fun a w hK hM => ?_
 refine wp_seq ?_
 refine rg2 (by kernel_rfl) ?_
 refine sA hK hM 3 28 (cE e) (fun b => pA b 0) (by kernel_rfl) (by kernel_rfl) fun b1 a w hK hM => ?_
 refine sP hK 5 (.bool false) (by kernel_rfl) (by kernel_rfl) fun a hK => ?_
 refine rps ?_
 refine wp_seq ?_
 refine rg4 (by kernel_rfl) ?_
 refine sL hK 6 (.func (.func fd) #[] cd) (by kernel_rfl) rfl rfl ((hM.row 1 rfl).cells 0 1) (by kernel_rfl) fun a hK => ?_
 refine sM hK 7 1 (by kernel_rfl) (.inl rfl) rfl fun a hK => ?_
 have hc5m : Mem w0 _ (G s ++ ([.row b1 28 (cE e), .row bE 74 [.func (.func fd) #[] cd], .row bS 74 [.func (.func fd) #[] cd]] ++ F)) := (hM.perm (perm_mid [.row b1 28 (cE e), .row bE 74 [.func (.func fd) #[] cd], .row bS 74 [.func (.func fd) #[] cd]] (G s) F))
 have hc5 := hD.call d k s ([.row b1 28 (cE e), .row bE 74 [.func (.func fd) #[] cd], .row bS 74 [.func (.func fd) #[] cd]] ++ F) _ hc5m hd hok
 replace hc5 := hc5.mono (fun _ _ h => Gives.perm (g' := fun r : Bool × σ => [.row b1 28 (cE e), .row bE 74 [.func (.func fd) #[] cd], .row bS 74 [.func (.func fd) #[] cd]] ++ (G r.2 ++ F)) (fun r => perm_mid2 [.row b1 28 (cE e), .row bE 74 [.func (.func fd) #[] cd], .row bS 74 [.func (.func fd) #[] cd]] (G r.2) F) h)
 refine stepCallIn hK 8 _ (by kernel_rfl) (rC hD.enters rfl rfl (by kernel_rfl)) (hc5) ?_
 rintro ⟨r2, q3⟩ a w hR4 hK hM
 replace hM := hM.to (.row b1 28 (cE e) :: .row bE 74 [.func (.func fd) #[] cd] :: .row bS 74 [.func (.func fd) #[] cd] :: (G q3 ++ F)) (by kernel_rfl)
 rcases Bool.eq_false_or_eq_true r2 with h7 | h7
 ·refine sP hK 5 (.bool true) (by kernel_rfl) (oB (b := r2) (by kernel_rfl) h7) fun a hK => ?_
  refine rps ?_
  refine wp_ret ?_
  exact ret_t hK rfl (u := (.bool true)) rfl (⟨(true, q3), rfl, hM.drop 1, pair_of hR4 h7⟩)
 ·refine sP hK 5 (.bool false) (by kernel_rfl) (oB (b := r2) (by kernel_rfl) h7) fun a hK => ?_
  refine rps ?_
  refine wp_ret ?_
  exact ret_t hK rfl (u := (.bool false)) rfl (⟨(false, q3), rfl, hM.drop 1, pair_of hR4 h7⟩)
set_option maxRecDepth 100000 in
set_option maxHeartbeats 4000000 in
theorem any_stmt2 {σ : Type} {w0 : World} {G : σ → List It} {ok : Nat → σ → Prop} {h : Nat → σ → Bool × σ} {fd : FuncId} {cd : Array Value} (hD : StepD w0 G ok h fd cd) (bE bS : Nat) : StepS w0 (fun s => .row bE 74 [.func (.func fd) #[] cd] :: .row bS 74 [.func (.func fd) #[] cd] :: G s) ok (fun _ d s => h d s) 77 #[pA bS 0] := by
 refine ⟨en_ast_anyStmt_1, ?_, fun _ d k s h1 h2 => hD.ok d k s h1 h2⟩
 intro e d k s F w1 hM0 he hs hd hok
 replace hM0 : Mem w0 w1 ((.row bE 74 [.func (.func fd) #[] cd] :: .row bS 74 [.func (.func fd) #[] cd] :: (G s ++ F))) := hM0
 refine calls_KM (args := [vS e, vN d, pA bS 0]) (n := 9) (env := [(0, vS e), (1, vN d), (2, pA bS 0)]) Tryz.func77 rfl rfl rfl ⟨rfl, rfl, rfl, trivial⟩ hM0 fun a w hK hM => ?_
 refine wp_seq ?_
 refine rg2 (by kernel_rfl) ?_
 refine sA hK hM 3 64 (cS e) (fun b => pA b 0) (by kernel_rfl) (by kernel_rfl) fun b1 a w hK hM => ?_
 refine sP hK 5 (.bool false) (by kernel_rfl) (by kernel_rfl) fun a hK => ?_
 refine rps ?_
 refine wp_seq ?_
 refine rg4 (by kernel_rfl) ?_
 refine sL hK 6 (.func (.func fd) #[] cd) (by kernel_rfl) rfl rfl ((hM.row 2 rfl).cells 0 1) (by kernel_rfl) fun a hK => ?_
 refine sM hK 7 1 (by kernel_rfl) (.inl rfl) rfl fun a hK => ?_
 have hc5m : Mem w0 _ (G s ++ ([.row b1 64 (cS e), .row bE 74 [.func (.func fd) #[] cd], .row bS 74 [.func (.func fd) #[] cd]] ++ F)) := (hM.perm (perm_mid [.row b1 64 (cS e), .row bE 74 [.func (.func fd) #[] cd], .row bS 74 [.func (.func fd) #[] cd]] (G s) F))
 have hc5 := hD.call d k s ([.row b1 64 (cS e), .row bE 74 [.func (.func fd) #[] cd], .row bS 74 [.func (.func fd) #[] cd]] ++ F) _ hc5m hd hok
 replace hc5 := hc5.mono (fun _ _ h => Gives.perm (g' := fun r : Bool × σ => [.row b1 64 (cS e), .row bE 74 [.func (.func fd) #[] cd], .row bS 74 [.func (.func fd) #[] cd]] ++ (G r.2 ++ F)) (fun r => perm_mid2 [.row b1 64 (cS e), .row bE 74 [.func (.func fd) #[] cd], .row bS 74 [.func (.func fd) #[] cd]] (G r.2) F) h)
 refine stepCallIn hK 8 _ (by kernel_rfl) (rC hD.enters rfl rfl (by kernel_rfl)) (hc5) ?_
 rintro ⟨r2, q3⟩ a w hR4 hK hM
 replace hM := hM.to (.row b1 64 (cS e) :: .row bE 74 [.func (.func fd) #[] cd] :: .row bS 74 [.func (.func fd) #[] cd] :: (G q3 ++ F)) (by kernel_rfl)
 rcases Bool.eq_false_or_eq_true r2 with h7 | h7
 ·refine sP hK 5 (.bool true) (by kernel_rfl) (oB (b := r2) (by kernel_rfl) h7) fun a hK => ?_
  refine rps ?_
  refine wp_ret ?_
  exact ret_t hK rfl (u := (.bool true)) rfl (⟨(true, q3), rfl, hM.drop 1, pair_of hR4 h7⟩)
 ·refine sP hK 5 (.bool false) (by kernel_rfl) (oB (b := r2) (by kernel_rfl) h7) fun a hK => ?_
  refine rps ?_
  refine wp_ret ?_
  exact ret_t hK rfl (u := (.bool false)) rfl (⟨(false, q3), rfl, hM.drop 1, pair_of hR4 h7⟩)
set_option maxRecDepth 100000 in
set_option maxHeartbeats 4000000 in
theorem any_expr1 {σ : Type} {w0 : World} {G : σ → List It} {ok : Nat → σ → Prop} {h : Nat → σ → Bool × σ} {fd : FuncId} {cd : Array Value} (hD : StepD w0 G ok h fd cd) (bE : Nat) : StepE w0 (fun s => .row bE 74 [.func (.func fd) #[] cd] :: G s) ok (fun _ d s => h d s) 71 #[pA bE 0] := by
 refine ⟨en_ast_anyExpr_1, ?_, fun _ d k s h1 h2 => hD.ok d k s h1 h2⟩
 intro e d k s F w1 hM0 he hs hd hok
 replace hM0 : Mem w0 w1 ((.row bE 74 [.func (.func fd) #[] cd] :: (G s ++ F))) := hM0
 refine calls_KM (args := [vE e, vN d, pA bE 0]) (n := 9) (env := [(0, vE e), (1, vN d), (2, pA bE 0)]) Tryz.func71 rfl rfl rfl ⟨rfl, rfl, rfl, trivial⟩ hM0 fun a w hK hM => ?_
 refine wp_seq ?_
 refine rg2 (by kernel_rfl) ?_
 refine sA hK hM 3 28 (cE e) (fun b => pA b 0) (by kernel_rfl) (by kernel_rfl) fun b1 a w hK hM => ?_
 refine sP hK 5 (.bool false) (by kernel_rfl) (by kernel_rfl) fun a hK => ?_
 refine rps ?_
 refine wp_seq ?_
 refine rg4 (by kernel_rfl) ?_
 refine sL hK 6 (.func (.func fd) #[] cd) (by kernel_rfl) rfl rfl ((hM.row 1 rfl).cells 0 1) (by kernel_rfl) fun a hK => ?_
 refine sM hK 7 1 (by kernel_rfl) (.inl rfl) rfl fun a hK => ?_
 have hc5m : Mem w0 _ (G s ++ ([.row b1 28 (cE e), .row bE 74 [.func (.func fd) #[] cd]] ++ F)) := (hM.perm (perm_mid [.row b1 28 (cE e), .row bE 74 [.func (.func fd) #[] cd]] (G s) F))
 have hc5 := hD.call d k s ([.row b1 28 (cE e), .row bE 74 [.func (.func fd) #[] cd]] ++ F) _ hc5m hd hok
 replace hc5 := hc5.mono (fun _ _ h => Gives.perm (g' := fun r : Bool × σ => [.row b1 28 (cE e), .row bE 74 [.func (.func fd) #[] cd]] ++ (G r.2 ++ F)) (fun r => perm_mid2 [.row b1 28 (cE e), .row bE 74 [.func (.func fd) #[] cd]] (G r.2) F) h)
 refine stepCallIn hK 8 _ (by kernel_rfl) (rC hD.enters rfl rfl (by kernel_rfl)) (hc5) ?_
 rintro ⟨r2, q3⟩ a w hR4 hK hM
 replace hM := hM.to (.row b1 28 (cE e) :: .row bE 74 [.func (.func fd) #[] cd] :: (G q3 ++ F)) (by kernel_rfl)
 rcases Bool.eq_false_or_eq_true r2 with h7 | h7
 ·refine sP hK 5 (.bool true) (by kernel_rfl) (oB (b := r2) (by kernel_rfl) h7) fun a hK => ?_
  refine rps ?_
  refine wp_ret ?_
  exact ret_t hK rfl (u := (.bool true)) rfl (⟨(true, q3), rfl, hM.drop 1, pair_of hR4 h7⟩)
 ·refine sP hK 5 (.bool false) (by kernel_rfl) (oB (b := r2) (by kernel_rfl) h7) fun a hK => ?_
  refine rps ?_
  refine wp_ret ?_
  exact ret_t hK rfl (u := (.bool false)) rfl (⟨(false, q3), rfl, hM.drop 1, pair_of hR4 h7⟩)
set_option maxRecDepth 100000 in
set_option maxHeartbeats 4000000 in
theorem ast_anyExpr (fd : FuncId) (cd : Array Value) (w0 : World) : Calls Tryz.prog 45 #[.func (.func fd) #[] cd] w0 (Gives w0 (fun b : Nat => .func (.func 71) #[] #[pA b 0]) (fun b => [.row b 74 [.func (.func fd) #[] cd]]) fun _ => True) := by
 refine calls_K (args := [.func (.func fd) #[] cd]) (n := 4) (env := [(0, .func (.func fd) #[] cd)]) Tryz.func45 rfl rfl rfl ⟨rfl, trivial⟩ fun a w hK hM => ?_
 refine wp_seq ?_
 refine rg2 (by kernel_rfl) ?_
 refine sA hK hM 1 74 [.func (.func fd) #[] cd] (fun b => pA b 0) (by kernel_rfl) (by kernel_rfl) fun b1 a w hK hM => ?_
 refine sP hK 2 (.nilFunc) (by kernel_rfl) (by kernel_rfl) fun a hK => ?_
 refine rps ?_
 refine wp_seq ?_
 refine rg2 (by kernel_rfl) ?_
 refine sP hK 3 (.func (.func 71) #[] #[pA b1 0]) (by kernel_rfl) (by kernel_rfl) fun a hK => ?_
 refine sM hK 2 3 (by kernel_rfl) (.inr rfl) rfl fun a hK => ?_
 refine rps ?_
 refine wp_ret ?_
 exact ret_t hK rfl (u := (.func (.func 71) #[] #[pA b1 0])) rfl (⟨b1, rfl, hM, trivial⟩)
set_option maxRecDepth 100000 in
set_option maxHeartbeats 4000000 in
theorem ast_anyStmt (fd : FuncId) (cd : Array Value) (w0 : World) : Calls Tryz.prog 59 #[.func (.func fd) #[] cd] w0 (Gives w0 (fun b : Nat => .func (.func 77) #[] #[pA b 0]) (fun b => [.row b 74 [.func (.func fd) #[] cd]]) fun _ => True) := by
 refine calls_K (args := [.func (.func fd) #[] cd]) (n := 4) (env := [(0, .func (.func fd) #[] cd)]) Tryz.func59 rfl rfl rfl ⟨rfl, trivial⟩ fun a w hK hM => ?_
 refine wp_seq ?_
 refine rg2 (by kernel_rfl) ?_
 refine sA hK hM 1 74 [.func (.func fd) #[] cd] (fun b => pA b 0) (by kernel_rfl) (by kernel_rfl) fun b1 a w hK hM => ?_
 refine sP hK 2 (.nilFunc) (by kernel_rfl) (by kernel_rfl) fun a hK => ?_
 refine rps ?_
 refine wp_seq ?_
 refine rg2 (by kernel_rfl) ?_
 refine sP hK 3 (.func (.func 77) #[] #[pA b1 0]) (by kernel_rfl) (by kernel_rfl) fun a hK => ?_
 refine sM hK 2 3 (by kernel_rfl) (.inr rfl) rfl fun a hK => ?_
 refine rps ?_
 refine wp_ret ?_
 exact ret_t hK rfl (u := (.func (.func 77) #[] #[pA b1 0])) rfl (⟨b1, rfl, hM, trivial⟩)
set_option maxRecDepth 100000 in
set_option maxHeartbeats 4000000 in
theorem step_size (w0 : World) (bc : Nat) : StepD w0 (fun n : Nat => [.row bc 3 [vN n]]) okN sizeD 58 #[pA bc 0] := by
 refine ⟨en_ast_Size_1, ?_, fun d k s h1 _ => by unfold okN sizeD at *; simp only; omega⟩
 intro d k s F w1 hM0 hd hok
 replace hM0 : Mem w0 w1 ((.row bc 3 [vN s] :: F)) := hM0
 refine calls_KM (args := [vN d, pA bc 0]) (n := 6) (env := [(0, vN d), (1, pA bc 0)]) Tryz.func58 rfl rfl rfl ⟨rfl, rfl, trivial⟩ hM0 fun a w hK hM => ?_
 refine wp_seq ?_
 refine rg1 (by kernel_rfl) ?_
 refine sP hK 3 (.bool false) (by kernel_rfl) (by kernel_rfl) fun a hK => ?_
 refine rps ?_
 refine wp_seq ?_
 refine rg3 (by kernel_rfl) ?_
 refine sL hK 4 (vN s) (by kernel_rfl) rfl rfl ((hM.row 0 rfl).cells 0 1) (by kernel_rfl) fun a hK => ?_
 refine sP hK 5 (.int .i64 (((s + 1) : Nat) : Int)) (by kernel_rfl) (run_addN (i := s) (j := 1) rfl rfl rfl (by unfold okN at hok; omega)) fun a hK => ?_
 refine sS hK hM 0 [.int .i64 (((s + 1) : Nat) : Int)] (by kernel_rfl) rfl rfl rfl rfl (by kernel_rfl) fun w hM => ?_
 replace hM := hM.to (.row bc 3 [.int .i64 (((s + 1) : Nat) : Int)] :: F) (by kernel_rfl)
 refine rps ?_
 refine wp_seq ?_
 refine rg1 (by kernel_rfl) ?_
 refine sP hK 3 (.bool true) (by kernel_rfl) (by kernel_rfl) fun a hK => ?_
 refine rps ?_
 refine wp_ret ?_
 exact ret_t hK rfl (u := (.bool true)) rfl (⟨(true, s + 1), rfl, hM, rfl⟩)
set_option maxRecDepth 100000 in
set_option maxHeartbeats 4000000 in
theorem step_deep (w0 : World) (bc : Nat) : StepD w0 (fun n : Nat => [.row bc 3 [vN n]]) okU deepD 60 #[pA bc 0] := by
 refine ⟨en_ast_Deep_1, ?_, fun _ _ _ _ _ => trivial⟩
 intro d k s F w1 hM0 hd hok
 replace hM0 : Mem w0 w1 ((.row bc 3 [vN s] :: F)) := hM0
 refine calls_KM (args := [vN d, pA bc 0]) (n := 7) (env := [(0, vN d), (1, pA bc 0)]) Tryz.func60 rfl rfl rfl ⟨rfl, rfl, trivial⟩ hM0 fun a w hK hM => ?_
 refine wp_seq ?_
 refine rg1 (by kernel_rfl) ?_
 refine sP hK 3 (.bool false) (by kernel_rfl) (by kernel_rfl) fun a hK => ?_
 refine rps ?_
 refine wp_seq ?_
 refine rg4 (by kernel_rfl) ?_
 refine sL hK 4 (vN s) (by kernel_rfl) rfl rfl ((hM.row 0 rfl).cells 0 1) (by kernel_rfl) fun a hK => ?_
 refine sM hK 5 0 (by kernel_rfl) (.inl rfl) rfl fun a hK => ?_
 refine sP hK 6 (.int .i64 (((max s d) : Nat) : Int)) (by kernel_rfl) (okVal (run_maxI rfl rfl rfl) (congrArg (Value.int .i64) (by omega))) fun a hK => ?_
 refine sS hK hM 0 [.int .i64 (((max s d) : Nat) : Int)] (by kernel_rfl) rfl rfl rfl rfl (by kernel_rfl) fun w hM => ?_
 replace hM := hM.to (.row bc 3 [.int .i64 (((max s d) : Nat) : Int)] :: F) (by kernel_rfl)
 refine rps ?_
 refine wp_seq ?_
 refine rg1 (by kernel_rfl) ?_
 refine sP hK 3 (.bool true) (by kernel_rfl) (by kernel_rfl) fun a hK => ?_
 refine rps ?_
 refine wp_ret ?_
 exact ret_t hK rfl (u := (.bool true)) rfl (⟨(true, max s d), rfl, hM, rfl⟩)
set_option maxRecDepth 100000 in
set_option maxHeartbeats 4000000 in
theorem step_lim (w0 : World) (bc : Nat) : StepD w0 (fun n : Nat => [.row bc 3 [vN n]]) okN limD 72 #[pA bc 0] := by
 refine ⟨en_ast_limits_1, ?_, fun d k s h1 _ => by unfold okN limD at *; simp only; omega⟩
 intro d k s F w1 hM0 hd hok
 replace hM0 : Mem w0 w1 ((.row bc 3 [vN s] :: F)) := hM0
 refine calls_KM (args := [vN d, pA bc 0]) (n := 12) (env := [(0, vN d), (1, pA bc 0)]) Tryz.func72 rfl rfl rfl ⟨rfl, rfl, trivial⟩ hM0 fun a w hK hM => ?_
 refine wp_seq ?_
 refine rg1 (by kernel_rfl) ?_
 refine sP hK 3 (.bool false) (by kernel_rfl) (by kernel_rfl) fun a hK => ?_
 refine rps ?_
 refine wp_seq ?_
 refine rg3 (by kernel_rfl) ?_
 refine sL hK 4 (vN s) (by kernel_rfl) rfl rfl ((hM.row 0 rfl).cells 0 1) (by kernel_rfl) fun a hK => ?_
 refine sP hK 5 (.int .i64 (((s + 1) : Nat) : Int)) (by kernel_rfl) (run_addN (i := s) (j := 1) rfl rfl rfl (by unfold okN at hok; omega)) fun a hK => ?_
 refine sS hK hM 0 [.int .i64 (((s + 1) : Nat) : Int)] (by kernel_rfl) rfl rfl rfl rfl (by kernel_rfl) fun w hM => ?_
 replace hM := hM.to (.row bc 3 [.int .i64 (((s + 1) : Nat) : Int)] :: F) (by kernel_rfl)
 refine rps ?_
 refine wp_seq ?_
 refine rg7 (by kernel_rfl) ?_
 refine sL hK 6 (.int .i64 (((s + 1) : Nat) : Int)) (by kernel_rfl) rfl rfl ((hM.row 0 rfl).cells 0 1) (by kernel_rfl) fun a hK => ?_
 by_cases h1 : ((((s + 1) : Nat) : Int) : Int) ≤ 2000
 ·refine sP hK 7 (.bool true) (by kernel_rfl) (oB (b := (decide (((((s + 1) : Nat) : Int) : Int) ≤ 2000))) (by kernel_rfl) (decide_eq_true h1)) fun a hK => ?_
  refine sM hK 8 7 (by kernel_rfl) (.inl rfl) rfl fun a hK => ?_
  refine sM hK 9 0 (by kernel_rfl) (.inl rfl) rfl fun a hK => ?_
  by_cases h2 : (((d : Nat) : Int) : Int) ≤ 32
  ·refine sP hK 10 (.bool true) (by kernel_rfl) (oB (b := (decide ((((d : Nat) : Int) : Int) ≤ 32))) (by kernel_rfl) (decide_eq_true h2)) fun a hK => ?_
   refine sP hK 11 (.bool true) (by kernel_rfl) (by kernel_rfl) fun a hK => ?_
   refine sM hK 3 11 (by kernel_rfl) (.inr rfl) rfl fun a hK => ?_
   refine rps ?_
   refine wp_ret ?_
   exact ret_t hK rfl (u := (.bool true)) rfl (⟨(true, s + 1), rfl, hM, by unfold limD; rw [(decide_eq_true h1), (decide_eq_true h2)]; rfl⟩)
  ·refine sP hK 10 (.bool false) (by kernel_rfl) (oB (b := (decide ((((d : Nat) : Int) : Int) ≤ 32))) (by kernel_rfl) (decide_eq_false h2)) fun a hK => ?_
   refine sP hK 11 (.bool false) (by kernel_rfl) (by kernel_rfl) fun a hK => ?_
   refine sM hK 3 11 (by kernel_rfl) (.inr rfl) rfl fun a hK => ?_
   refine rps ?_
   refine wp_ret ?_
   exact ret_t hK rfl (u := (.bool false)) rfl (⟨(false, s + 1), rfl, hM, by unfold limD; rw [(decide_eq_true h1), (decide_eq_false h2)]; rfl⟩)
 ·refine sP hK 7 (.bool false) (by kernel_rfl) (oB (b := (decide (((((s + 1) : Nat) : Int) : Int) ≤ 2000))) (by kernel_rfl) (decide_eq_false h1)) fun a hK => ?_
  refine sM hK 8 7 (by kernel_rfl) (.inl rfl) rfl fun a hK => ?_
  refine sN hK 9 (by kernel_rfl) fun a hK => ?_
  refine sN hK 10 (by kernel_rfl) fun a hK => ?_
  refine sP hK 11 (.bool false) (by kernel_rfl) (by kernel_rfl) fun a hK => ?_
  refine sM hK 3 11 (by kernel_rfl) (.inr rfl) rfl fun a hK => ?_
  refine rps ?_
  refine wp_ret ?_
  exact ret_t hK rfl (u := (.bool false)) rfl (⟨(false, s + 1), rfl, hM, by unfold limD; rw [(decide_eq_false h1)]; rfl⟩)
set_option maxRecDepth 100000 in
set_option maxHeartbeats 4000000 in
theorem ast_limits  (w0 : World) : Calls Tryz.prog 53 #[] w0 (Gives w0 (fun x : Nat × Nat × Nat => .tuple #[.func (.func 71) #[] #[.pointer (some ⟨x.1, 0, none⟩)], .func (.func 77) #[] #[.pointer (some ⟨x.2.1, 0, none⟩)]]) (fun x => [.row x.1 74 [.func (.func 72) #[] #[.pointer (some ⟨x.2.2, 0, none⟩)]], .row x.2.1 74 [.func (.func 72) #[] #[.pointer (some ⟨x.2.2, 0, none⟩)]], .row x.2.2 3 [vN 0]]) fun _ => True) := by
 refine calls_K (args := []) (n := 9) (env := []) Tryz.func53 rfl rfl rfl trivial fun a w hK hM => ?_
 refine wp_seq ?_
 refine rg2 (by kernel_rfl) ?_
 refine sP hK 0 (.nilFunc) (by kernel_rfl) (by kernel_rfl) fun a hK => ?_
 refine sP hK 1 (.nilFunc) (by kernel_rfl) (by kernel_rfl) fun a hK => ?_
 refine rps ?_
 refine wp_seq ?_
 refine rg2 (by kernel_rfl) ?_
 refine sA hK hM 2 3 [.int .i64 0] (fun b => pA b 0) (by kernel_rfl) (by kernel_rfl) fun b1 a w hK hM => ?_
 refine sS hK hM 0 [.int .i64 0] (by kernel_rfl) rfl rfl rfl rfl (by kernel_rfl) fun w hM => ?_
 replace hM := hM.to [.row b1 3 [.int .i64 0]] (by kernel_rfl)
 refine rps ?_
 refine wp_seq ?_
 refine rg2 (by kernel_rfl) ?_
 refine sP hK 4 (.func (.func 72) #[] #[pA b1 0]) (by kernel_rfl) (by kernel_rfl) fun a hK => ?_
 refine sM hK 3 4 (by kernel_rfl) (.inr rfl) rfl fun a hK => ?_
 refine rps ?_
 refine wp_seq ?_
 refine rg6 (by kernel_rfl) ?_
 refine sM hK 5 3 (by kernel_rfl) (.inl rfl) rfl fun a hK => ?_
 refine sC hK hM 6 #[.func (.func 72) #[] #[pA b1 0]] (by kernel_rfl) (rC en_ast_anyExpr rfl rfl (by kernel_rfl)) (ast_anyExpr 72 #[pA b1 0] _) ?_
 rintro b2 a w - hK hM
 refine sM hK 7 3 (by kernel_rfl) (.inl rfl) rfl fun a hK => ?_
 refine sC hK hM 8 #[.func (.func 72) #[] #[pA b1 0]] (by kernel_rfl) (rC en_ast_anyStmt rfl rfl (by kernel_rfl)) (ast_anyStmt 72 #[pA b1 0] _) ?_
 rintro b4 a w - hK hM
 refine sM hK 0 6 (by kernel_rfl) (.inr rfl) rfl fun a hK => ?_
 refine sM hK 1 8 (by kernel_rfl) (.inr rfl) rfl fun a hK => ?_
 refine rps ?_
 refine wp_ret ?_
 exact ret_tt hK rfl (u := (.func (.func 71) #[] #[pA b2 0])) (v := (.func (.func 77) #[] #[pA b4 0])) rfl rfl (⟨(b2, b4, b1), rfl, (hM.order [[.row b4 74 [.func (.func 72) #[] #[pA b1 0]]], [.row b2 74 [.func (.func 72) #[] #[pA b1 0]]], [.row b1 3 [.int .i64 0]]] [1, 0, 2] 3 rfl (by simp) (by decide) ([.row b2 74 [.func (.func 72) #[] #[pA b1 0]], .row b4 74 [.func (.func 72) #[] #[pA b1 0]], .row b1 3 [.int .i64 0]]) (by simp)), trivial⟩)
set_option maxRecDepth 100000 in
set_option maxHeartbeats 4000000 in
theorem ast_Size (p : Pg) (w0 : World) (hp : PgAt w0 p) (hsz : thsSz p.ts ≤ 100000) (hsh : pgSh p = true) : Calls Tryz.prog 21 #[vG p] w0 (Ret w0 (.int .i64 ((thsSz p.ts : Nat) : Int))) := by
 refine calls_K (args := [vG p]) (n := 13) (env := [(0, vG p)]) Tryz.func21 rfl rfl rfl ⟨rfl, trivial⟩ fun a w hK hM => ?_
 refine wp_seq ?_
 refine rg2 (by kernel_rfl) ?_
 refine sA hK hM 1 25 [.slice p.A1 p.ds.length p.c1, .slice p.A2 p.ts.length p.c2] (fun b => pA b 0) (by kernel_rfl) (by kernel_rfl) fun b1 a w hK hM => ?_
 refine sP hK 2 (.int .i64 0) (by kernel_rfl) (by kernel_rfl) fun a hK => ?_
 refine rps ?_
 refine wp_seq ?_
 refine rg2 (by kernel_rfl) ?_
 refine sA hK hM 3 3 [.int .i64 0] (fun b => pA b 0) (by kernel_rfl) (by kernel_rfl) fun b2 a w hK hM => ?_
 refine sS hK hM 0 [.int .i64 0] (by kernel_rfl) rfl rfl rfl rfl (by kernel_rfl) fun w hM => ?_
 replace hM := hM.to [.row b2 3 [.int .i64 0], .row b1 25 [.slice p.A1 p.ds.length p.c1, .slice p.A2 p.ts.length p.c2]] (by kernel_rfl)
 refine rps ?_
 refine wp_seq ?_
 refine rg2 (by kernel_rfl) ?_
 refine sP hK 5 (.func (.func 58) #[] #[pA b2 0]) (by kernel_rfl) (by kernel_rfl) fun a hK => ?_
 refine sM hK 4 5 (by kernel_rfl) (.inr rfl) rfl fun a hK => ?_
 refine rps ?_
 refine wp_seq ?_
 refine wp_cut (fun a w => ∃ (b3_2 : Nat), ∃ (b3_4 : Nat), ∃ (q3_5 : Nat), ∃ (r3_5 : Bool), Knows a 13 [(4, .func (.func 58) #[] #[pA b2 0]), (3, pA b2 0), (2, .int .i64 0), (1, pA b1 0), (0, vG p)] ∧ Mem w0 w [.row b3_2 74 [.func (.func 58) #[] #[pA b2 0]], .row b3_4 74 [.func (.func 58) #[] #[pA b2 0]], .row b2 3 [vN q3_5], .row b1 25 [.slice p.A1 p.ds.length p.c1, .slice p.A2 p.ts.length p.c2]] ∧ (r3_5, q3_5) = thsWk (fun _ d s => sizeD d s) (fun _ d s => sizeD d s) p.ts 0) ?_ ?_
 ·refine region_tree hM (by kernel_rfl) 6 (by kernel_rfl) #[false, false, false, false, false, false] (by kernel_rfl) ?_
  clear hM; intro w hM
  refine tP hK 1 7 (.func (.func 58) #[] #[pA b2 0]) (by kernel_rfl) (by kernel_rfl) (by kernel_rfl) (fun w => (by kernel_rfl)) #[false, true, false, false, false, false] (by kernel_rfl) fun a hK => ?_
  refine tP hK 3 9 (.func (.func 58) #[] #[pA b2 0]) (by kernel_rfl) (by kernel_rfl) (by kernel_rfl) (fun w => (by kernel_rfl)) #[false, true, false, true, false, false] (by kernel_rfl) fun a hK => ?_
  refine tM [0, 2] (by kernel_rfl) rfl ⟨?_, ?_, trivial⟩
  ·refine sL hK 6 (vG p) (by kernel_rfl) rfl rfl ((hM.row 1 rfl).cells 0 2) (by kernel_rfl) fun a hK => ?_
   refine tX #[true, true, false, true, false, false] (by kernel_rfl) ?_
   refine tM [2] (by kernel_rfl) rfl ⟨?_, trivial⟩
   refine sC hK hM 8 #[.func (.func 58) #[] #[pA b2 0]] (by kernel_rfl) (rC en_ast_anyExpr rfl rfl (by kernel_rfl)) (ast_anyExpr 58 #[pA b2 0] _) ?_
   rintro b3_2 a w - hK hM
   refine tX #[true, true, true, true, false, false] (by kernel_rfl) ?_
   refine tM [4] (by kernel_rfl) rfl ⟨?_, trivial⟩
   refine sC hK hM 10 #[.func (.func 58) #[] #[pA b2 0]] (by kernel_rfl) (rC en_ast_anyStmt rfl rfl (by kernel_rfl)) (ast_anyStmt 58 #[pA b2 0] _) ?_
   rintro b3_4 a w - hK hM
   refine tX #[true, true, true, true, true, false] (by kernel_rfl) ?_
   refine tM [5] (by kernel_rfl) rfl ⟨?_, trivial⟩
   have hc5m : Mem w0 _ [.row b3_2 74 [.func (.func 58) #[] #[pA b2 0]], .row b3_4 74 [.func (.func 58) #[] #[pA b2 0]], .row b2 3 [.int .i64 0], .row b1 25 [.slice p.A1 p.ds.length p.c1, .slice p.A2 p.ts.length p.c2]] := (hM.order [[.row b3_4 74 [.func (.func 58) #[] #[pA b2 0]]], [.row b3_2 74 [.func (.func 58) #[] #[pA b2 0]]], [.row b2 3 [.int .i64 0]], [.row b1 25 [.slice p.A1 p.ds.length p.c1, .slice p.A2 p.ts.length p.c2]]] [1, 0, 2, 3] 4 rfl (by simp) (by decide) ([.row b3_2 74 [.func (.func 58) #[] #[pA b2 0]], .row b3_4 74 [.func (.func 58) #[] #[pA b2 0]], .row b2 3 [.int .i64 0], .row b1 25 [.slice p.A1 p.ds.length p.c1, .slice p.A2 p.ts.length p.c2]]) (by simp))
   have hc5 := ast_walkThreads (any_expr2 (step_size _ b2) b3_2 b3_4) (any_stmt2 (step_size _ b2) b3_2 b3_4) p 0 0 [.row b1 25 [.slice p.A1 p.ds.length p.c1, .slice p.A2 p.ts.length p.c2]] _ (hp.on (Below.refl _ _)) (by omega) hsh hc5m (by unfold okN; omega)
   refine stepCallIn hK 11 #[vG p, .func (.func 71) #[] #[pA b3_2 0], .func (.func 77) #[] #[pA b3_4 0]] (by kernel_rfl) (rC en_ast_walkThreads rfl rfl (by kernel_rfl)) (hc5) ?_
   rintro ⟨r3_5, q3_5⟩ a w ⟨hR3_5, -⟩ hK hM
   replace hM := hM.to [.row b3_2 74 [.func (.func 58) #[] #[pA b2 0]], .row b3_4 74 [.func (.func 58) #[] #[pA b2 0]], .row b2 3 [vN q3_5], .row b1 25 [.slice p.A1 p.ds.length p.c1, .slice p.A2 p.ts.length p.c2]] (by kernel_rfl)
   refine tX #[true, true, true, true, true, true] (by kernel_rfl) ?_
   exact treeE (by kernel_rfl) ⟨b3_2, b3_4, q3_5, r3_5, hK.sub ⟨rfl, rfl, rfl, rfl, rfl, trivial⟩, hM, hR3_5⟩
  ·refine sC hK hM 8 #[.func (.func 58) #[] #[pA b2 0]] (by kernel_rfl) (rC en_ast_anyExpr rfl rfl (by kernel_rfl)) (ast_anyExpr 58 #[pA b2 0] _) ?_
   rintro b3_2 a w - hK hM
   refine tX #[false, true, true, true, false, false] (by kernel_rfl) ?_
   refine tM [0, 4] (by kernel_rfl) rfl ⟨?_, ?_, trivial⟩
   ·refine sL hK 6 (vG p) (by kernel_rfl) rfl rfl ((hM.row 2 rfl).cells 0 2) (by kernel_rfl) fun a hK => ?_
    refine tX #[true, true, true, true, false, false] (by kernel_rfl) ?_
    refine tM [4] (by kernel_rfl) rfl ⟨?_, trivial⟩
    refine sC hK hM 10 #[.func (.func 58) #[] #[pA b2 0]] (by kernel_rfl) (rC en_ast_anyStmt rfl rfl (by kernel_rfl)) (ast_anyStmt 58 #[pA b2 0] _) ?_
    rintro b3_4 a w - hK hM
    refine tX #[true, true, true, true, true, false] (by kernel_rfl) ?_
    refine tM [5] (by kernel_rfl) rfl ⟨?_, trivial⟩
    have hc9m : Mem w0 _ [.row b3_2 74 [.func (.func 58) #[] #[pA b2 0]], .row b3_4 74 [.func (.func 58) #[] #[pA b2 0]], .row b2 3 [.int .i64 0], .row b1 25 [.slice p.A1 p.ds.length p.c1, .slice p.A2 p.ts.length p.c2]] := (hM.order [[.row b3_4 74 [.func (.func 58) #[] #[pA b2 0]]], [.row b3_2 74 [.func (.func 58) #[] #[pA b2 0]]], [.row b2 3 [.int .i64 0]], [.row b1 25 [.slice p.A1 p.ds.length p.c1, .slice p.A2 p.ts.length p.c2]]] [1, 0, 2, 3] 4 rfl (by simp) (by decide) ([.row b3_2 74 [.func (.func 58) #[] #[pA b2 0]], .row b3_4 74 [.func (.func 58) #[] #[pA b2 0]], .row b2 3 [.int .i64 0], .row b1 25 [.slice p.A1 p.ds.length p.c1, .slice p.A2 p.ts.length p.c2]]) (by simp))
    have hc9 := ast_walkThreads (any_expr2 (step_size _ b2) b3_2 b3_4) (any_stmt2 (step_size _ b2) b3_2 b3_4) p 0 0 [.row b1 25 [.slice p.A1 p.ds.length p.c1, .slice p.A2 p.ts.length p.c2]] _ (hp.on (Below.refl _ _)) (by omega) hsh hc9m (by unfold okN; omega)
    refine stepCallIn hK 11 #[vG p, .func (.func 71) #[] #[pA b3_2 0], .func (.func 77) #[] #[pA b3_4 0]] (by kernel_rfl) (rC en_ast_walkThreads rfl rfl (by kernel_rfl)) (hc9) ?_
    rintro ⟨r3_5, q3_5⟩ a w ⟨hR3_5, -⟩ hK hM
    replace hM := hM.to [.row b3_2 74 [.func (.func 58) #[] #[pA b2 0]], .row b3_4 74 [.func (.func 58) #[] #[pA b2 0]], .row b2 3 [vN q3_5], .row b1 25 [.slice p.A1 p.ds.length p.c1, .slice p.A2 p.ts.length p.c2]] (by kernel_rfl)
    refine tX #[true, true, true, true, true, true] (by kernel_rfl) ?_
    exact treeE (by kernel_rfl) ⟨b3_2, b3_4, q3_5, r3_5, hK.sub ⟨rfl, rfl, rfl, rfl, rfl, trivial⟩, hM, hR3_5⟩
   ·refine sC hK hM 10 #[.func (.func 58) #[] #[pA b2 0]] (by kernel_rfl) (rC en_ast_anyStmt rfl rfl (by kernel_rfl)) (ast_anyStmt 58 #[pA b2 0] _) ?_
    rintro b3_4 a w - hK hM
    refine tX #[false, true, true, true, true, false] (by kernel_rfl) ?_
    refine tM [0] (by kernel_rfl) rfl ⟨?_, trivial⟩
    refine sL hK 6 (vG p) (by kernel_rfl) rfl rfl ((hM.row 3 rfl).cells 0 2) (by kernel_rfl) fun a hK => ?_
    refine tX #[true, true, true, true, true, false] (by kernel_rfl) ?_
    refine tM [5] (by kernel_rfl) rfl ⟨?_, trivial⟩
    have hc12m : Mem w0 _ [.row b3_2 74 [.func (.func 58) #[] #[pA b2 0]], .row b3_4 74 [.func (.func 58) #[] #[pA b2 0]], .row b2 3 [.int .i64 0], .row b1 25 [.slice p.A1 p.ds.length p.c1, .slice p.A2 p.ts.length p.c2]] := (hM.order [[.row b3_4 74 [.func (.func 58) #[] #[pA b2 0]]], [.row b3_2 74 [.func (.func 58) #[] #[pA b2 0]]], [.row b2 3 [.int .i64 0]], [.row b1 25 [.slice p.A1 p.ds.length p.c1, .slice p.A2 p.ts.length p.c2]]] [1, 0, 2, 3] 4 rfl (by simp) (by decide) ([.row b3_2 74 [.func (.func 58) #[] #[pA b2 0]], .row b3_4 74 [.func (.func 58) #[] #[pA b2 0]], .row b2 3 [.int .i64 0], .row b1 25 [.slice p.A1 p.ds.length p.c1, .slice p.A2 p.ts.length p.c2]]) (by simp))
    have hc12 := ast_walkThreads (any_expr2 (step_size _ b2) b3_2 b3_4) (any_stmt2 (step_size _ b2) b3_2 b3_4) p 0 0 [.row b1 25 [.slice p.A1 p.ds.length p.c1, .slice p.A2 p.ts.length p.c2]] _ (hp.on (Below.refl _ _)) (by omega) hsh hc12m (by unfold okN; omega)
    refine stepCallIn hK 11 #[vG p, .func (.func 71) #[] #[pA b3_2 0], .func (.func 77) #[] #[pA b3_4 0]] (by kernel_rfl) (rC en_ast_walkThreads rfl rfl (by kernel_rfl)) (hc12) ?_
    rintro ⟨r3_5, q3_5⟩ a w ⟨hR3_5, -⟩ hK hM
    replace hM := hM.to [.row b3_2 74 [.func (.func 58) #[] #[pA b2 0]], .row b3_4 74 [.func (.func 58) #[] #[pA b2 0]], .row b2 3 [vN q3_5], .row b1 25 [.slice p.A1 p.ds.length p.c1, .slice p.A2 p.ts.length p.c2]] (by kernel_rfl)
    refine tX #[true, true, true, true, true, true] (by kernel_rfl) ?_
    exact treeE (by kernel_rfl) ⟨b3_2, b3_4, q3_5, r3_5, hK.sub ⟨rfl, rfl, rfl, rfl, rfl, trivial⟩, hM, hR3_5⟩
 rintro a w ⟨b3_2, b3_4, q3_5, r3_5, hK, hM, hR3_5⟩
 refine wp_seq ?_
 refine rg2 (by kernel_rfl) ?_
 refine sL hK 12 (vN q3_5) (by kernel_rfl) rfl rfl ((hM.row 2 rfl).cells 0 1) (by kernel_rfl) fun a hK => ?_
 refine sM hK 2 12 (by kernel_rfl) (.inr rfl) rfl fun a hK => ?_
 refine rps ?_
 refine wp_ret ?_
 exact ret_t hK rfl (u := (vN q3_5)) rfl (⟨by have h9 := (congrArg Prod.snd (hR3_5.trans (size_ths p.ts 0))); have h8 : q3_5 = _ := h9; rw [h8]; rw [Nat.zero_add], hM.below⟩)
set_option maxRecDepth 100000 in
set_option maxHeartbeats 4000000 in
theorem ast_Deep (p : Pg) (w0 : World) (hp : PgAt w0 p) (hsz : thsSz p.ts ≤ 100000) (hsh : pgSh p = true) : Calls Tryz.prog 22 #[vG p] w0 (Ret w0 (.int .i64 ((thsDp p.ts : Nat) : Int))) := by
 refine calls_K (args := [vG p]) (n := 13) (env := [(0, vG p)]) Tryz.func22 rfl rfl rfl ⟨rfl, trivial⟩ fun a w hK hM => ?_
 refine wp_seq ?_
 refine rg2 (by kernel_rfl) ?_
 refine sA hK hM 1 25 [.slice p.A1 p.ds.length p.c1, .slice p.A2 p.ts.length p.c2] (fun b => pA b 0) (by kernel_rfl) (by kernel_rfl) fun b1 a w hK hM => ?_
 refine sP hK 2 (.int .i64 0) (by kernel_rfl) (by kernel_rfl) fun a hK => ?_
 refine rps ?_
 refine wp_seq ?_
 refine rg2 (by kernel_rfl) ?_
 refine sA hK hM 3 3 [.int .i64 0] (fun b => pA b 0) (by kernel_rfl) (by kernel_rfl) fun b2 a w hK hM => ?_
 refine sS hK hM 0 [.int .i64 0] (by kernel_rfl) rfl rfl rfl rfl (by kernel_rfl) fun w hM => ?_
 replace hM := hM.to [.row b2 3 [.int .i64 0], .row b1 25 [.slice p.A1 p.ds.length p.c1, .slice p.A2 p.ts.length p.c2]] (by kernel_rfl)
 refine rps ?_
 refine wp_seq ?_
 refine rg2 (by kernel_rfl) ?_
 refine sP hK 5 (.func (.func 60) #[] #[pA b2 0]) (by kernel_rfl) (by kernel_rfl) fun a hK => ?_
 refine sM hK 4 5 (by kernel_rfl) (.inr rfl) rfl fun a hK => ?_
 refine rps ?_
 refine wp_seq ?_
 refine wp_cut (fun a w => ∃ (b3_2 : Nat), ∃ (b3_4 : Nat), ∃ (q3_5 : Nat), ∃ (r3_5 : Bool), Knows a 13 [(4, .func (.func 60) #[] #[pA b2 0]), (3, pA b2 0), (2, .int .i64 0), (1, pA b1 0), (0, vG p)] ∧ Mem w0 w [.row b3_2 74 [.func (.func 60) #[] #[pA b2 0]], .row b3_4 74 [.func (.func 60) #[] #[pA b2 0]], .row b2 3 [vN q3_5], .row b1 25 [.slice p.A1 p.ds.length p.c1, .slice p.A2 p.ts.length p.c2]] ∧ (r3_5, q3_5) = thsWk (fun _ d s => deepD d s) (fun _ d s => deepD d s) p.ts 0) ?_ ?_
 ·refine region_tree hM (by kernel_rfl) 6 (by kernel_rfl) #[false, false, false, false, false, false] (by kernel_rfl) ?_
  clear hM; intro w hM
  refine tP hK 1 7 (.func (.func 60) #[] #[pA b2 0]) (by kernel_rfl) (by kernel_rfl) (by kernel_rfl) (fun w => (by kernel_rfl)) #[false, true, false, false, false, false] (by kernel_rfl) fun a hK => ?_
  refine tP hK 3 9 (.func (.func 60) #[] #[pA b2 0]) (by kernel_rfl) (by kernel_rfl) (by kernel_rfl) (fun w => (by kernel_rfl)) #[false, true, false, true, false, false] (by kernel_rfl) fun a hK => ?_
  refine tM [0, 2] (by kernel_rfl) rfl ⟨?_, ?_, trivial⟩
  ·refine sL hK 6 (vG p) (by kernel_rfl) rfl rfl ((hM.row 1 rfl).cells 0 2) (by kernel_rfl) fun a hK => ?_
   refine tX #[true, true, false, true, false, false] (by kernel_rfl) ?_
   refine tM [2] (by kernel_rfl) rfl ⟨?_, trivial⟩
   refine sC hK hM 8 #[.func (.func 60) #[] #[pA b2 0]] (by kernel_rfl) (rC en_ast_anyExpr rfl rfl (by kernel_rfl)) (ast_anyExpr 60 #[pA b2 0] _) ?_
   rintro b3_2 a w - hK hM
   refine tX #[true, true, true, true, false, false] (by kernel_rfl) ?_
   refine tM [4] (by kernel_rfl) rfl ⟨?_, trivial⟩
   refine sC hK hM 10 #[.func (.func 60) #[] #[pA b2 0]] (by kernel_rfl) (rC en_ast_anyStmt rfl rfl (by kernel_rfl)) (ast_anyStmt 60 #[pA b2 0] _) ?_
   rintro b3_4 a w - hK hM
   refine tX #[true, true, true, true, true, false] (by kernel_rfl) ?_
   refine tM [5] (by kernel_rfl) rfl ⟨?_, trivial⟩
   have hc5m : Mem w0 _ [.row b3_2 74 [.func (.func 60) #[] #[pA b2 0]], .row b3_4 74 [.func (.func 60) #[] #[pA b2 0]], .row b2 3 [.int .i64 0], .row b1 25 [.slice p.A1 p.ds.length p.c1, .slice p.A2 p.ts.length p.c2]] := (hM.order [[.row b3_4 74 [.func (.func 60) #[] #[pA b2 0]]], [.row b3_2 74 [.func (.func 60) #[] #[pA b2 0]]], [.row b2 3 [.int .i64 0]], [.row b1 25 [.slice p.A1 p.ds.length p.c1, .slice p.A2 p.ts.length p.c2]]] [1, 0, 2, 3] 4 rfl (by simp) (by decide) ([.row b3_2 74 [.func (.func 60) #[] #[pA b2 0]], .row b3_4 74 [.func (.func 60) #[] #[pA b2 0]], .row b2 3 [.int .i64 0], .row b1 25 [.slice p.A1 p.ds.length p.c1, .slice p.A2 p.ts.length p.c2]]) (by simp))
   have hc5 := ast_walkThreads (any_expr2 (step_deep _ b2) b3_2 b3_4) (any_stmt2 (step_deep _ b2) b3_2 b3_4) p 0 0 [.row b1 25 [.slice p.A1 p.ds.length p.c1, .slice p.A2 p.ts.length p.c2]] _ (hp.on (Below.refl _ _)) (by omega) hsh hc5m (trivial)
   refine stepCallIn hK 11 #[vG p, .func (.func 71) #[] #[pA b3_2 0], .func (.func 77) #[] #[pA b3_4 0]] (by kernel_rfl) (rC en_ast_walkThreads rfl rfl (by kernel_rfl)) (hc5) ?_
   rintro ⟨r3_5, q3_5⟩ a w ⟨hR3_5, -⟩ hK hM
   replace hM := hM.to [.row b3_2 74 [.func (.func 60) #[] #[pA b2 0]], .row b3_4 74 [.func (.func 60) #[] #[pA b2 0]], .row b2 3 [vN q3_5], .row b1 25 [.slice p.A1 p.ds.length p.c1, .slice p.A2 p.ts.length p.c2]] (by kernel_rfl)
   refine tX #[true, true, true, true, true, true] (by kernel_rfl) ?_
   exact treeE (by kernel_rfl) ⟨b3_2, b3_4, q3_5, r3_5, hK.sub ⟨rfl, rfl, rfl, rfl, rfl, trivial⟩, hM, hR3_5⟩
  ·refine sC hK hM 8 #[.func (.func 60) #[] #[pA b2 0]] (by kernel_rfl) (rC en_ast_anyExpr rfl rfl (by kernel_rfl)) (ast_anyExpr 60 #[pA b2 0] _) ?_
   rintro b3_2 a w - hK hM
   refine tX #[false, true, true, true, false, false] (by kernel_rfl) ?_
   refine tM [0, 4] (by kernel_rfl) rfl ⟨?_, ?_, trivial⟩
   ·refine sL hK 6 (vG p) (by kernel_rfl) rfl rfl ((hM.row 2 rfl).cells 0 2) (by kernel_rfl) fun a hK => ?_
    refine tX #[true, true, true, true, false, false] (by kernel_rfl) ?_
    refine tM [4] (by kernel_rfl) rfl ⟨?_, trivial⟩
    refine sC hK hM 10 #[.func (.func 60) #[] #[pA b2 0]] (by kernel_rfl) (rC en_ast_anyStmt rfl rfl (by kernel_rfl)) (ast_anyStmt 60 #[pA b2 0] _) ?_
    rintro b3_4 a w - hK hM
    refine tX #[true, true, true, true, true, false] (by kernel_rfl) ?_
    refine tM [5] (by kernel_rfl) rfl ⟨?_, trivial⟩
    have hc9m : Mem w0 _ [.row b3_2 74 [.func (.func 60) #[] #[pA b2 0]], .row b3_4 74 [.func (.func 60) #[] #[pA b2 0]], .row b2 3 [.int .i64 0], .row b1 25 [.slice p.A1 p.ds.length p.c1, .slice p.A2 p.ts.length p.c2]] := (hM.order [[.row b3_4 74 [.func (.func 60) #[] #[pA b2 0]]], [.row b3_2 74 [.func (.func 60) #[] #[pA b2 0]]], [.row b2 3 [.int .i64 0]], [.row b1 25 [.slice p.A1 p.ds.length p.c1, .slice p.A2 p.ts.length p.c2]]] [1, 0, 2, 3] 4 rfl (by simp) (by decide) ([.row b3_2 74 [.func (.func 60) #[] #[pA b2 0]], .row b3_4 74 [.func (.func 60) #[] #[pA b2 0]], .row b2 3 [.int .i64 0], .row b1 25 [.slice p.A1 p.ds.length p.c1, .slice p.A2 p.ts.length p.c2]]) (by simp))
    have hc9 := ast_walkThreads (any_expr2 (step_deep _ b2) b3_2 b3_4) (any_stmt2 (step_deep _ b2) b3_2 b3_4) p 0 0 [.row b1 25 [.slice p.A1 p.ds.length p.c1, .slice p.A2 p.ts.length p.c2]] _ (hp.on (Below.refl _ _)) (by omega) hsh hc9m (trivial)
    refine stepCallIn hK 11 #[vG p, .func (.func 71) #[] #[pA b3_2 0], .func (.func 77) #[] #[pA b3_4 0]] (by kernel_rfl) (rC en_ast_walkThreads rfl rfl (by kernel_rfl)) (hc9) ?_
    rintro ⟨r3_5, q3_5⟩ a w ⟨hR3_5, -⟩ hK hM
    replace hM := hM.to [.row b3_2 74 [.func (.func 60) #[] #[pA b2 0]], .row b3_4 74 [.func (.func 60) #[] #[pA b2 0]], .row b2 3 [vN q3_5], .row b1 25 [.slice p.A1 p.ds.length p.c1, .slice p.A2 p.ts.length p.c2]] (by kernel_rfl)
    refine tX #[true, true, true, true, true, true] (by kernel_rfl) ?_
    exact treeE (by kernel_rfl) ⟨b3_2, b3_4, q3_5, r3_5, hK.sub ⟨rfl, rfl, rfl, rfl, rfl, trivial⟩, hM, hR3_5⟩
   ·refine sC hK hM 10 #[.func (.func 60) #[] #[pA b2 0]] (by kernel_rfl) (rC en_ast_anyStmt rfl rfl (by kernel_rfl)) (ast_anyStmt 60 #[pA b2 0] _) ?_
    rintro b3_4 a w - hK hM
    refine tX #[false, true, true, true, true, false] (by kernel_rfl) ?_
    refine tM [0] (by kernel_rfl) rfl ⟨?_, trivial⟩
    refine sL hK 6 (vG p) (by kernel_rfl) rfl rfl ((hM.row 3 rfl).cells 0 2) (by kernel_rfl) fun a hK => ?_
    refine tX #[true, true, true, true, true, false] (by kernel_rfl) ?_
    refine tM [5] (by kernel_rfl) rfl ⟨?_, trivial⟩
    have hc12m : Mem w0 _ [.row b3_2 74 [.func (.func 60) #[] #[pA b2 0]], .row b3_4 74 [.func (.func 60) #[] #[pA b2 0]], .row b2 3 [.int .i64 0], .row b1 25 [.slice p.A1 p.ds.length p.c1, .slice p.A2 p.ts.length p.c2]] := (hM.order [[.row b3_4 74 [.func (.func 60) #[] #[pA b2 0]]], [.row b3_2 74 [.func (.func 60) #[] #[pA b2 0]]], [.row b2 3 [.int .i64 0]], [.row b1 25 [.slice p.A1 p.ds.length p.c1, .slice p.A2 p.ts.length p.c2]]] [1, 0, 2, 3] 4 rfl (by simp) (by decide) ([.row b3_2 74 [.func (.func 60) #[] #[pA b2 0]], .row b3_4 74 [.func (.func 60) #[] #[pA b2 0]], .row b2 3 [.int .i64 0], .row b1 25 [.slice p.A1 p.ds.length p.c1, .slice p.A2 p.ts.length p.c2]]) (by simp))
    have hc12 := ast_walkThreads (any_expr2 (step_deep _ b2) b3_2 b3_4) (any_stmt2 (step_deep _ b2) b3_2 b3_4) p 0 0 [.row b1 25 [.slice p.A1 p.ds.length p.c1, .slice p.A2 p.ts.length p.c2]] _ (hp.on (Below.refl _ _)) (by omega) hsh hc12m (trivial)
    refine stepCallIn hK 11 #[vG p, .func (.func 71) #[] #[pA b3_2 0], .func (.func 77) #[] #[pA b3_4 0]] (by kernel_rfl) (rC en_ast_walkThreads rfl rfl (by kernel_rfl)) (hc12) ?_
    rintro ⟨r3_5, q3_5⟩ a w ⟨hR3_5, -⟩ hK hM
    replace hM := hM.to [.row b3_2 74 [.func (.func 60) #[] #[pA b2 0]], .row b3_4 74 [.func (.func 60) #[] #[pA b2 0]], .row b2 3 [vN q3_5], .row b1 25 [.slice p.A1 p.ds.length p.c1, .slice p.A2 p.ts.length p.c2]] (by kernel_rfl)
    refine tX #[true, true, true, true, true, true] (by kernel_rfl) ?_
    exact treeE (by kernel_rfl) ⟨b3_2, b3_4, q3_5, r3_5, hK.sub ⟨rfl, rfl, rfl, rfl, rfl, trivial⟩, hM, hR3_5⟩
 rintro a w ⟨b3_2, b3_4, q3_5, r3_5, hK, hM, hR3_5⟩
 refine wp_seq ?_
 refine rg2 (by kernel_rfl) ?_
 refine sL hK 12 (vN q3_5) (by kernel_rfl) rfl rfl ((hM.row 2 rfl).cells 0 1) (by kernel_rfl) fun a hK => ?_
 refine sM hK 2 12 (by kernel_rfl) (.inr rfl) rfl fun a hK => ?_
 refine rps ?_
 refine wp_ret ?_
 exact ret_t hK rfl (u := (vN q3_5)) rfl (⟨by have h9 := (congrArg Prod.snd (hR3_5.trans (deep_ths p.ts 0))); have h8 : q3_5 = _ := h9; rw [h8]; rw [Nat.zero_max], hM.below⟩)
end Go.Proofs.YtiigncmpbkfhmaaGreatDoor
namespace Go.Proofs.YtiigncmpbkfhmaaGreatDoor
open Go Go.RowKit
theorem en_ast_isKind : Enters Tryz.prog 48 := enters_of Tryz.func48 (by kernel_rfl) rfl
theorem en_ast_isWord : Enters Tryz.prog 73 := enters_of Tryz.func73 (by kernel_rfl) rfl
theorem en_ast_numMayBe : Enters Tryz.prog 74 := enters_of Tryz.func74 (by kernel_rfl) rfl
theorem en_ast_nameMayBe : Enters Tryz.prog 75 := enters_of Tryz.func75 (by kernel_rfl) rfl
theorem en_ast_orderMayBe : Enters Tryz.prog 76 := enters_of Tryz.func76 (by kernel_rfl) rfl
theorem en_ast_exprMayBe : Enters Tryz.prog 56 := enters_of Tryz.func56 (by kernel_rfl) rfl
theorem en_ast_stmtMayBe : Enters Tryz.prog 57 := enters_of Tryz.func57 (by kernel_rfl) rfl
theorem en_ast_declsMayBe : Enters Tryz.prog 55 := enters_of Tryz.func55 (by kernel_rfl) rfl
theorem en_ast_Check : Enters Tryz.prog 20 := enters_of Tryz.func20 (by kernel_rfl) rfl
set_option maxRecDepth 100000 in
set_option maxHeartbeats 4000000 in
theorem ast_isKind (k : Int) (w0 : World) : Calls Tryz.prog 48 #[.int .i64 k] w0 (Ret w0 (.bool (ptIs k))) := by
 refine calls_K (args := [.int .i64 k]) (n := 9) (env := [(0, .int .i64 k)]) Tryz.func48 rfl rfl rfl ⟨rfl, trivial⟩ fun a w hK hM => ?_
 refine wp_seq ?_
 refine rg1 (by kernel_rfl) ?_
 refine sP hK 2 (.bool false) (by kernel_rfl) (by kernel_rfl) fun a hK => ?_
 refine rps ?_
 refine wp_seq ?_
 refine rg7 (by kernel_rfl) ?_
 refine sM hK 3 0 (by kernel_rfl) (.inl rfl) rfl fun a hK => ?_
 by_cases h1 : (1 : Int) ≤ k
 ·refine sP hK 4 (.bool true) (by kernel_rfl) (oB (b := (decide ((1 : Int) ≤ k))) (by kernel_rfl) (decide_eq_true h1)) fun a hK => ?_
  refine sM hK 5 4 (by kernel_rfl) (.inl rfl) rfl fun a hK => ?_
  refine sM hK 6 0 (by kernel_rfl) (.inl rfl) rfl fun a hK => ?_
  by_cases h2 : (k : Int) ≤ 11
  ·refine sP hK 7 (.bool true) (by kernel_rfl) (oB (b := (decide ((k : Int) ≤ 11))) (by kernel_rfl) (decide_eq_true h2)) fun a hK => ?_
   refine sP hK 8 (.bool true) (by kernel_rfl) (by kernel_rfl) fun a hK => ?_
   refine sM hK 2 8 (by kernel_rfl) (.inr rfl) rfl fun a hK => ?_
   refine rps ?_
   refine wp_ret ?_
   exact ret_t hK rfl (u := (.bool true)) rfl (⟨by unfold ptIs; rw [(decide_eq_true h1), (decide_eq_true h2)]; rfl, hM.below⟩)
  ·refine sP hK 7 (.bool false) (by kernel_rfl) (oB (b := (decide ((k : Int) ≤ 11))) (by kernel_rfl) (decide_eq_false h2)) fun a hK => ?_
   refine sP hK 8 (.bool false) (by kernel_rfl) (by kernel_rfl) fun a hK => ?_
   refine sM hK 2 8 (by kernel_rfl) (.inr rfl) rfl fun a hK => ?_
   refine rps ?_
   refine wp_ret ?_
   exact ret_t hK rfl (u := (.bool false)) rfl (⟨by unfold ptIs; rw [(decide_eq_true h1), (decide_eq_false h2)]; rfl, hM.below⟩)
 ·refine sP hK 4 (.bool false) (by kernel_rfl) (oB (b := (decide ((1 : Int) ≤ k))) (by kernel_rfl) (decide_eq_false h1)) fun a hK => ?_
  refine sM hK 5 4 (by kernel_rfl) (.inl rfl) rfl fun a hK => ?_
  refine sN hK 6 (by kernel_rfl) fun a hK => ?_
  refine sN hK 7 (by kernel_rfl) fun a hK => ?_
  refine sP hK 8 (.bool false) (by kernel_rfl) (by kernel_rfl) fun a hK => ?_
  refine sM hK 2 8 (by kernel_rfl) (.inr rfl) rfl fun a hK => ?_
  refine rps ?_
  refine wp_ret ?_
  exact ret_t hK rfl (u := (.bool false)) rfl (⟨by unfold ptIs; rw [(decide_eq_false h1)]; rfl, hM.below⟩)
set_option maxRecDepth 100000 in
set_option maxHeartbeats 4000000 in
theorem ast_isWord (l : List UInt8) (w0 : World) (hl : l.length ≤ 65536) : Calls Tryz.prog 73 #[Str l] w0 (Ret w0 (.bool (isWd l))) := by
 refine calls_K (args := [Str l]) (n := 15) (env := [(0, Str l)]) Tryz.func73 rfl rfl rfl ⟨rfl, trivial⟩ fun a w hK hM => ?_
 refine wp_seq ?_
 refine rg1 (by kernel_rfl) ?_
 refine sP hK 2 (.bool false) (by kernel_rfl) (by kernel_rfl) fun a hK => ?_
 refine rps ?_
 refine wp_seq ?_
 refine rg7 (by kernel_rfl) ?_
 refine sM hK 6 0 (by kernel_rfl) (.inl rfl) rfl fun a hK => ?_
 refine sR hK hM 7 #[Str l] (.tuple #[.int .i64 (((wordOf l).1 : Nat) : Int), .bool (wordOf l).2]) (by kernel_rfl) (rC en_lex_Word rfl rfl (by kernel_rfl)) (ret_eq (lex_Word l (by omega) _) (wordV_eq l)) fun a w hK hM => ?_
 refine sM hK 5 7 (by kernel_rfl) (.inl rfl) rfl fun a hK => ?_
 refine sP hK 8 (.int .i64 (((wordOf l).1 : Nat) : Int)) (by kernel_rfl) (by kernel_rfl) fun a hK => ?_
 rcases Bool.eq_false_or_eq_true (wordOf l).2 with h1 | h1
 ·refine sP hK 9 (.bool true) (by kernel_rfl) (oB (b := (wordOf l).2) (by kernel_rfl) h1) fun a hK => ?_
  refine sM hK 3 8 (by kernel_rfl) (.inr rfl) rfl fun a hK => ?_
  refine sM hK 4 9 (by kernel_rfl) (.inr rfl) rfl fun a hK => ?_
  refine rps ?_
  refine wp_seq ?_
  refine rg6 (by kernel_rfl) ?_
  refine sM hK 10 4 (by kernel_rfl) (.inl rfl) rfl fun a hK => ?_
  refine sM hK 11 10 (by kernel_rfl) (.inl rfl) rfl fun a hK => ?_
  refine sM hK 12 3 (by kernel_rfl) (.inl rfl) rfl fun a hK => ?_
  by_cases h2 : ((((wordOf l).1 : Nat) : Int) : Int) = 1
  ·refine sP hK 13 (.bool true) (by kernel_rfl) (oB (b := (decide (((((wordOf l).1 : Nat) : Int) : Int) = 1))) (by kernel_rfl) (decide_eq_true h2)) fun a hK => ?_
   refine sP hK 14 (.bool true) (by kernel_rfl) (by kernel_rfl) fun a hK => ?_
   refine sM hK 2 14 (by kernel_rfl) (.inr rfl) rfl fun a hK => ?_
   refine rps ?_
   refine wp_ret ?_
   exact ret_t hK rfl (u := (.bool true)) rfl (⟨by unfold isWd; rw [h1, (decide_eq_true h2)]; rfl, hM.below⟩)
  ·refine sP hK 13 (.bool false) (by kernel_rfl) (oB (b := (decide (((((wordOf l).1 : Nat) : Int) : Int) = 1))) (by kernel_rfl) (decide_eq_false h2)) fun a hK => ?_
   refine sP hK 14 (.bool false) (by kernel_rfl) (by kernel_rfl) fun a hK => ?_
   refine sM hK 2 14 (by kernel_rfl) (.inr rfl) rfl fun a hK => ?_
   refine rps ?_
   refine wp_ret ?_
   exact ret_t hK rfl (u := (.bool false)) rfl (⟨by unfold isWd; rw [h1, (decide_eq_false h2)]; rfl, hM.below⟩)
 ·refine sP hK 9 (.bool false) (by kernel_rfl) (oB (b := (wordOf l).2) (by kernel_rfl) h1) fun a hK => ?_
  refine sM hK 3 8 (by kernel_rfl) (.inr rfl) rfl fun a hK => ?_
  refine sM hK 4 9 (by kernel_rfl) (.inr rfl) rfl fun a hK => ?_
  refine rps ?_
  refine wp_seq ?_
  refine rg6 (by kernel_rfl) ?_
  refine sM hK 10 4 (by kernel_rfl) (.inl rfl) rfl fun a hK => ?_
  refine sM hK 11 10 (by kernel_rfl) (.inl rfl) rfl fun a hK => ?_
  refine sN hK 12 (by kernel_rfl) fun a hK => ?_
  refine sN hK 13 (by kernel_rfl) fun a hK => ?_
  refine sP hK 14 (.bool false) (by kernel_rfl) (by kernel_rfl) fun a hK => ?_
  refine sM hK 2 14 (by kernel_rfl) (.inr rfl) rfl fun a hK => ?_
  refine rps ?_
  refine wp_ret ?_
  exact ret_t hK rfl (u := (.bool false)) rfl (⟨by unfold isWd; rw [h1]; rfl, hM.below⟩)
set_option maxRecDepth 100000 in
set_option maxHeartbeats 4000000 in
theorem ast_numMayBe (n : Int) (b : Bool) (w0 : World) : Calls Tryz.prog 74 #[.int .i64 n, .bool b] w0 (Ret w0 (.bool (numOk n b))) := by
 refine calls_K (args := [.int .i64 n, .bool b]) (n := 10) (env := [(0, .int .i64 n), (1, .bool b)]) Tryz.func74 rfl rfl rfl ⟨rfl, rfl, trivial⟩ fun a w hK hM => ?_
 refine wp_seq ?_
 refine rg1 (by kernel_rfl) ?_
 refine sP hK 4 (.bool false) (by kernel_rfl) (by kernel_rfl) fun a hK => ?_
 refine rps ?_
 refine wp_seq ?_
 refine wp_seq ?_
 refine rg1 (by kernel_rfl) ?_
 rcases Bool.eq_false_or_eq_true b with h1 | h1
 ·refine sP hK 5 (.bool true) (by kernel_rfl) (oB (b := b) (by kernel_rfl) h1) fun a hK => ?_
  refine rps ?_
  refine wp_cond_true (hK.get rfl) ?_
  refine wp_seq ?_
  refine rg3 (by kernel_rfl) ?_
  refine sM hK 6 0 (by kernel_rfl) (.inl rfl) rfl fun a hK => ?_
  by_cases h2 : (0 : Int) ≤ n
  ·refine sP hK 7 (.bool true) (by kernel_rfl) (oB (b := (decide ((0 : Int) ≤ n))) (by kernel_rfl) (decide_eq_true h2)) fun a hK => ?_
   refine sM hK 4 7 (by kernel_rfl) (.inr rfl) rfl fun a hK => ?_
   refine rps ?_
   refine wp_ret ?_
   exact ret_t hK rfl (u := (.bool true)) rfl (⟨by unfold numOk; rw [h1, (decide_eq_true h2)]; rfl, hM.below⟩)
  ·refine sP hK 7 (.bool false) (by kernel_rfl) (oB (b := (decide ((0 : Int) ≤ n))) (by kernel_rfl) (decide_eq_false h2)) fun a hK => ?_
   refine sM hK 4 7 (by kernel_rfl) (.inr rfl) rfl fun a hK => ?_
   refine rps ?_
   refine wp_ret ?_
   exact ret_t hK rfl (u := (.bool false)) rfl (⟨by unfold numOk; rw [h1, (decide_eq_false h2)]; rfl, hM.below⟩)
 ·refine sP hK 5 (.bool false) (by kernel_rfl) (oB (b := b) (by kernel_rfl) h1) fun a hK => ?_
  refine rps ?_
  refine wp_cond_false (hK.get rfl) ?_
  refine wp_skip ?_
  refine wp_seq ?_
  refine rg3 (by kernel_rfl) ?_
  refine sM hK 8 0 (by kernel_rfl) (.inl rfl) rfl fun a hK => ?_
  by_cases h3 : (n : Int) = 0
  ·refine sP hK 9 (.bool true) (by kernel_rfl) (oB (b := (decide ((n : Int) = 0))) (by kernel_rfl) (decide_eq_true h3)) fun a hK => ?_
   refine sM hK 4 9 (by kernel_rfl) (.inr rfl) rfl fun a hK => ?_
   refine rps ?_
   refine wp_ret ?_
   exact ret_t hK rfl (u := (.bool true)) rfl (⟨by unfold numOk; rw [h1, (decide_eq_true h3)]; rfl, hM.below⟩)
  ·refine sP hK 9 (.bool false) (by kernel_rfl) (oB (b := (decide ((n : Int) = 0))) (by kernel_rfl) (decide_eq_false h3)) fun a hK => ?_
   refine sM hK 4 9 (by kernel_rfl) (.inr rfl) rfl fun a hK => ?_
   refine rps ?_
   refine wp_ret ?_
   exact ret_t hK rfl (u := (.bool false)) rfl (⟨by unfold numOk; rw [h1, (decide_eq_false h3)]; rfl, hM.below⟩)
set_option maxRecDepth 100000 in
set_option maxHeartbeats 4000000 in
theorem ast_nameMayBe (l : List UInt8) (b : Bool) (w0 : World) (hl : l.length ≤ 65536) : Calls Tryz.prog 75 #[Str l, .bool b] w0 (Ret w0 (.bool (nameOk l b))) := by
 refine calls_K (args := [Str l, .bool b]) (n := 10) (env := [(0, Str l), (1, .bool b)]) Tryz.func75 rfl rfl rfl ⟨rfl, rfl, trivial⟩ fun a w hK hM => ?_
 refine wp_seq ?_
 refine rg1 (by kernel_rfl) ?_
 refine sP hK 4 (.bool false) (by kernel_rfl) (by kernel_rfl) fun a hK => ?_
 refine rps ?_
 refine wp_seq ?_
 refine wp_seq ?_
 refine rg1 (by kernel_rfl) ?_
 rcases Bool.eq_false_or_eq_true b with h1 | h1
 ·refine sP hK 5 (.bool true) (by kernel_rfl) (oB (b := b) (by kernel_rfl) h1) fun a hK => ?_
  refine rps ?_
  refine wp_cond_true (hK.get rfl) ?_
  refine wp_seq ?_
  refine rg3 (by kernel_rfl) ?_
  refine sM hK 6 0 (by kernel_rfl) (.inl rfl) rfl fun a hK => ?_
  rcases Bool.eq_false_or_eq_true (isWd l) with h2 | h2
  ·refine sR hK hM 7 #[Str l] (.bool true) (by kernel_rfl) (rC en_ast_isWord rfl rfl (by kernel_rfl)) (ret_eq (ast_isWord l _ (by omega)) (congrArg Value.bool h2)) fun a w hK hM => ?_
   refine sM hK 4 7 (by kernel_rfl) (.inr rfl) rfl fun a hK => ?_
   refine rps ?_
   refine wp_ret ?_
   exact ret_t hK rfl (u := (.bool true)) rfl (⟨by unfold nameOk; rw [h1, h2]; rfl, hM.below⟩)
  ·refine sR hK hM 7 #[Str l] (.bool false) (by kernel_rfl) (rC en_ast_isWord rfl rfl (by kernel_rfl)) (ret_eq (ast_isWord l _ (by omega)) (congrArg Value.bool h2)) fun a w hK hM => ?_
   refine sM hK 4 7 (by kernel_rfl) (.inr rfl) rfl fun a hK => ?_
   refine rps ?_
   refine wp_ret ?_
   exact ret_t hK rfl (u := (.bool false)) rfl (⟨by unfold nameOk; rw [h1, h2]; rfl, hM.below⟩)
 ·refine sP hK 5 (.bool false) (by kernel_rfl) (oB (b := b) (by kernel_rfl) h1) fun a hK => ?_
  refine rps ?_
  refine wp_cond_false (hK.get rfl) ?_
  refine wp_skip ?_
  refine wp_seq ?_
  refine rg3 (by kernel_rfl) ?_
  refine sM hK 8 0 (by kernel_rfl) (.inl rfl) rfl fun a hK => ?_
  by_cases h3 : l = []
  ·refine sP hK 9 (.bool true) (by kernel_rfl) (oB (b := (decide (l = []))) (run_eqS rfl rfl rfl) (decide_eq_true h3)) fun a hK => ?_
   refine sM hK 4 9 (by kernel_rfl) (.inr rfl) rfl fun a hK => ?_
   refine rps ?_
   refine wp_ret ?_
   exact ret_t hK rfl (u := (.bool true)) rfl (⟨by unfold nameOk; rw [h1, (decide_eq_true h3)]; rfl, hM.below⟩)
  ·refine sP hK 9 (.bool false) (by kernel_rfl) (oB (b := (decide (l = []))) (run_eqS rfl rfl rfl) (decide_eq_false h3)) fun a hK => ?_
   refine sM hK 4 9 (by kernel_rfl) (.inr rfl) rfl fun a hK => ?_
   refine rps ?_
   refine wp_ret ?_
   exact ret_t hK rfl (u := (.bool false)) rfl (⟨by unfold nameOk; rw [h1, (decide_eq_false h3)]; rfl, hM.below⟩)
set_option maxRecDepth 100000 in
set_option maxHeartbeats 4000000 in
theorem ast_orderMayBe (n : Int) (b : Bool) (w0 : World) : Calls Tryz.prog 76 #[.int .i64 n, .bool b] w0 (Ret w0 (.bool (ordOk n b))) := by
 refine calls_K (args := [.int .i64 n, .bool b]) (n := 14) (env := [(0, .int .i64 n), (1, .bool b)]) Tryz.func76 rfl rfl rfl ⟨rfl, rfl, trivial⟩ fun a w hK hM => ?_
 refine wp_seq ?_
 refine rg1 (by kernel_rfl) ?_
 refine sP hK 4 (.bool false) (by kernel_rfl) (by kernel_rfl) fun a hK => ?_
 refine rps ?_
 refine wp_seq ?_
 refine wp_seq ?_
 refine rg1 (by kernel_rfl) ?_
 rcases Bool.eq_false_or_eq_true b with h1 | h1
 ·refine sP hK 5 (.bool true) (by kernel_rfl) (oB (b := b) (by kernel_rfl) h1) fun a hK => ?_
  refine rps ?_
  refine wp_cond_true (hK.get rfl) ?_
  refine wp_seq ?_
  refine rg7 (by kernel_rfl) ?_
  refine sM hK 6 0 (by kernel_rfl) (.inl rfl) rfl fun a hK => ?_
  by_cases h2 : (1 : Int) ≤ n
  ·refine sP hK 7 (.bool true) (by kernel_rfl) (oB (b := (decide ((1 : Int) ≤ n))) (by kernel_rfl) (decide_eq_true h2)) fun a hK => ?_
   refine sM hK 8 7 (by kernel_rfl) (.inl rfl) rfl fun a hK => ?_
   refine sM hK 9 0 (by kernel_rfl) (.inl rfl) rfl fun a hK => ?_
   by_cases h3 : (n : Int) ≤ 6
   ·refine sP hK 10 (.bool true) (by kernel_rfl) (oB (b := (decide ((n : Int) ≤ 6))) (by kernel_rfl) (decide_eq_true h3)) fun a hK => ?_
    refine sP hK 11 (.bool true) (by kernel_rfl) (by kernel_rfl) fun a hK => ?_
    refine sM hK 4 11 (by kernel_rfl) (.inr rfl) rfl fun a hK => ?_
    refine rps ?_
    refine wp_ret ?_
    exact ret_t hK rfl (u := (.bool true)) rfl (⟨by unfold ordOk; rw [h1, (decide_eq_true h2), (decide_eq_true h3)]; rfl, hM.below⟩)
   ·refine sP hK 10 (.bool false) (by kernel_rfl) (oB (b := (decide ((n : Int) ≤ 6))) (by kernel_rfl) (decide_eq_false h3)) fun a hK => ?_
    refine sP hK 11 (.bool false) (by kernel_rfl) (by kernel_rfl) fun a hK => ?_
    refine sM hK 4 11 (by kernel_rfl) (.inr rfl) rfl fun a hK => ?_
    refine rps ?_
    refine wp_ret ?_
    exact ret_t hK rfl (u := (.bool false)) rfl (⟨by unfold ordOk; rw [h1, (decide_eq_true h2), (decide_eq_false h3)]; rfl, hM.below⟩)
  ·refine sP hK 7 (.bool false) (by kernel_rfl) (oB (b := (decide ((1 : Int) ≤ n))) (by kernel_rfl) (decide_eq_false h2)) fun a hK => ?_
   refine sM hK 8 7 (by kernel_rfl) (.inl rfl) rfl fun a hK => ?_
   refine sN hK 9 (by kernel_rfl) fun a hK => ?_
   refine sN hK 10 (by kernel_rfl) fun a hK => ?_
   refine sP hK 11 (.bool false) (by kernel_rfl) (by kernel_rfl) fun a hK => ?_
   refine sM hK 4 11 (by kernel_rfl) (.inr rfl) rfl fun a hK => ?_
   refine rps ?_
   refine wp_ret ?_
   exact ret_t hK rfl (u := (.bool false)) rfl (⟨by unfold ordOk; rw [h1, (decide_eq_false h2)]; rfl, hM.below⟩)
 ·refine sP hK 5 (.bool false) (by kernel_rfl) (oB (b := b) (by kernel_rfl) h1) fun a hK => ?_
  refine rps ?_
  refine wp_cond_false (hK.get rfl) ?_
  refine wp_skip ?_
  refine wp_seq ?_
  refine rg3 (by kernel_rfl) ?_
  refine sM hK 12 0 (by kernel_rfl) (.inl rfl) rfl fun a hK => ?_
  by_cases h4 : (n : Int) = 0
  ·refine sP hK 13 (.bool true) (by kernel_rfl) (oB (b := (decide ((n : Int) = 0))) (by kernel_rfl) (decide_eq_true h4)) fun a hK => ?_
   refine sM hK 4 13 (by kernel_rfl) (.inr rfl) rfl fun a hK => ?_
   refine rps ?_
   refine wp_ret ?_
   exact ret_t hK rfl (u := (.bool true)) rfl (⟨by unfold ordOk; rw [h1, (decide_eq_true h4)]; rfl, hM.below⟩)
  ·refine sP hK 13 (.bool false) (by kernel_rfl) (oB (b := (decide ((n : Int) = 0))) (by kernel_rfl) (decide_eq_false h4)) fun a hK => ?_
   refine sM hK 4 13 (by kernel_rfl) (.inr rfl) rfl fun a hK => ?_
   refine rps ?_
   refine wp_ret ?_
   exact ret_t hK rfl (u := (.bool false)) rfl (⟨by unfold ordOk; rw [h1, (decide_eq_false h4)]; rfl, hM.below⟩)
set_option maxRecDepth 100000 in
set_option maxHeartbeats 4000000 in
theorem step_mayE (w0 : World) (hTab : TabOk w0) : StepE w0 (fun _ : Unit => []) okU mayE 56 #[] := by
 refine ⟨en_ast_exprMayBe, ?_, fun _ _ _ _ _ _ => trivial⟩
 intro e d k s F w1 hM0 he hs hd hok
 obtain ⟨hnm, -⟩ := ex_sh hs
 replace hM0 : Mem w0 w1 F := hM0
 refine calls_KM (args := [vE e, vN d]) (n := 38) (env := [(0, vE e), (1, vN d)]) Tryz.func56 rfl rfl rfl ⟨rfl, rfl, trivial⟩ hM0 fun a w hK hM => ?_
 refine wp_seq ?_
 refine rg2 (by kernel_rfl) ?_
 refine sA hK hM 2 28 (cE e) (fun b => pA b 0) (by kernel_rfl) (by kernel_rfl) fun b1 a w hK hM => ?_
 refine sP hK 4 (.bool false) (by kernel_rfl) (by kernel_rfl) fun a hK => ?_
 refine rps ?_
 refine wp_seq ?_
 refine wp_seq ?_
 refine rg8 (by kernel_rfl) ?_
 refine sP hK 6 (pA b1 0) (by kernel_rfl) (by kernel_rfl) fun a hK => ?_
 refine sL hK 7 (.int .i64 e.op) (by kernel_rfl) rfl rfl ((hM.row 0 rfl).cells 0 1) (by kernel_rfl) fun a hK => ?_
 by_cases h2 : (e.op : Int) < 1
 ·refine sP hK 8 (.bool true) (by kernel_rfl) (oB (b := (decide ((e.op : Int) < 1))) (by kernel_rfl) (decide_eq_true h2)) fun a hK => ?_
  refine sM hK 9 8 (by kernel_rfl) (.inl rfl) rfl fun a hK => ?_
  refine sN hK 10 (by kernel_rfl) fun a hK => ?_
  refine sN hK 11 (by kernel_rfl) fun a hK => ?_
  refine sN hK 12 (by kernel_rfl) fun a hK => ?_
  refine sP hK 13 (.bool true) (by kernel_rfl) (by kernel_rfl) fun a hK => ?_
  refine rps ?_
  refine wp_cond_true (hK.get rfl) ?_
  refine wp_seq ?_
  refine rg1 (by kernel_rfl) ?_
  refine sP hK 4 (.bool false) (by kernel_rfl) (by kernel_rfl) fun a hK => ?_
  refine rps ?_
  refine wp_ret ?_
  exact ret_t hK rfl (u := (.bool false)) rfl (⟨(false, ()), rfl, hM.drop 1, by unfold mayE; rw [ex_out (by omega)]; rfl⟩)
 ·refine sP hK 8 (.bool false) (by kernel_rfl) (oB (b := (decide ((e.op : Int) < 1))) (by kernel_rfl) (decide_eq_false h2)) fun a hK => ?_
  refine sM hK 9 8 (by kernel_rfl) (.inl rfl) rfl fun a hK => ?_
  refine sP hK 10 (pA b1 0) (by kernel_rfl) (by kernel_rfl) fun a hK => ?_
  refine sL hK 11 (.int .i64 e.op) (by kernel_rfl) rfl rfl ((hM.row 0 rfl).cells 0 1) (by kernel_rfl) fun a hK => ?_
  by_cases h3 : (16 : Int) < e.op
  ·refine sP hK 12 (.bool true) (by kernel_rfl) (oB (b := (decide ((16 : Int) < e.op))) (by kernel_rfl) (decide_eq_true h3)) fun a hK => ?_
   refine sP hK 13 (.bool true) (by kernel_rfl) (by kernel_rfl) fun a hK => ?_
   refine rps ?_
   refine wp_cond_true (hK.get rfl) ?_
   refine wp_seq ?_
   refine rg1 (by kernel_rfl) ?_
   refine sP hK 4 (.bool false) (by kernel_rfl) (by kernel_rfl) fun a hK => ?_
   refine rps ?_
   refine wp_ret ?_
   exact ret_t hK rfl (u := (.bool false)) rfl (⟨(false, ()), rfl, hM.drop 1, by unfold mayE; rw [ex_out (by omega)]; rfl⟩)
  ·refine sP hK 12 (.bool false) (by kernel_rfl) (oB (b := (decide ((16 : Int) < e.op))) (by kernel_rfl) (decide_eq_false h3)) fun a hK => ?_
   refine sP hK 13 (.bool false) (by kernel_rfl) (by kernel_rfl) fun a hK => ?_
   refine rps ?_
   refine wp_cond_false (hK.get rfl) ?_
   refine wp_skip ?_
   refine wp_seq ?_
   refine rg6 (by kernel_rfl) ?_
   refine sP hK 14 (pA b1 0) (by kernel_rfl) (by kernel_rfl) fun a hK => ?_
   refine sL hK 15 (.int .i64 e.op) (by kernel_rfl) rfl rfl ((hM.row 0 rfl).cells 0 1) (by kernel_rfl) fun a hK => ?_
   refine sP hK 16 (.pointer (some ((⟨0, 0, none⟩ : Addr).add (e.op.toNat * 3)))) (by kernel_rfl) (run_ixArr (e := 91) (k := e.op.toNat) (s := 3) (n := 17) rfl rfl rfl (by omega) (by kernel_rfl) (by kernel_rfl) (by omega)) fun a hK => ?_
   refine sL hK 17 (.agg #[.bool (exN e.op), .bool (exR e.op), .int .i64 (kidsI e.op)]) (by kernel_rfl) rfl rfl (((hTab.exprs (op := e.op) (by omega) (by omega)).on hM.below)) (by kernel_rfl) fun a hK => ?_
   refine sA hK hM 5 91 [.bool false, .bool false, .int .i64 0] (fun b => pA b 0) (by kernel_rfl) (by kernel_rfl) fun b4 a w hK hM => ?_
   refine sS hK hM 0 [.bool (exN e.op), .bool (exR e.op), .int .i64 (kidsI e.op)] (by kernel_rfl) rfl rfl rfl rfl (by kernel_rfl) fun w hM => ?_
   replace hM := hM.to (.row b4 91 [.bool (exN e.op), .bool (exR e.op), .int .i64 (kidsI e.op)] :: .row b1 28 (cE e) :: F) (by kernel_rfl)
   refine rps ?_
   refine wp_seq ?_
   refine rg21 (by kernel_rfl) ?_
   refine sP hK 18 (pA b1 1) (by kernel_rfl) (by kernel_rfl) fun a hK => ?_
   refine sL hK 19 (.int .i64 e.num) (by kernel_rfl) rfl rfl ((hM.row 1 rfl).cells 1 1) (by kernel_rfl) fun a hK => ?_
   refine sP hK 20 (pA b4 0) (by kernel_rfl) (by kernel_rfl) fun a hK => ?_
   refine sL hK 21 (.bool (exN e.op)) (by kernel_rfl) rfl rfl ((hM.row 0 rfl).cells 0 1) (by kernel_rfl) fun a hK => ?_
   rcases Bool.eq_false_or_eq_true (numOk e.num (exN e.op)) with h5 | h5
   ·refine sR hK hM 22 #[.int .i64 e.num, .bool (exN e.op)] (.bool true) (by kernel_rfl) (rC en_ast_numMayBe rfl rfl (by kernel_rfl)) (ret_eq (ast_numMayBe e.num (exN e.op) _) (congrArg Value.bool h5)) fun a w hK hM => ?_
    refine sM hK 23 22 (by kernel_rfl) (.inl rfl) rfl fun a hK => ?_
    refine sP hK 24 (pA b1 2) (by kernel_rfl) (by kernel_rfl) fun a hK => ?_
    refine sL hK 25 (Str e.nm) (by kernel_rfl) rfl rfl ((hM.row 1 rfl).cells 2 1) (by kernel_rfl) fun a hK => ?_
    refine sP hK 26 (pA b4 1) (by kernel_rfl) (by kernel_rfl) fun a hK => ?_
    refine sL hK 27 (.bool (exR e.op)) (by kernel_rfl) rfl rfl ((hM.row 0 rfl).cells 1 1) (by kernel_rfl) fun a hK => ?_
    rcases Bool.eq_false_or_eq_true (nameOk e.nm (exR e.op)) with h6 | h6
    ·refine sR hK hM 28 #[Str e.nm, .bool (exR e.op)] (.bool true) (by kernel_rfl) (rC en_ast_nameMayBe rfl rfl (by kernel_rfl)) (ret_eq (ast_nameMayBe e.nm (exR e.op) _ (by omega)) (congrArg Value.bool h6)) fun a w hK hM => ?_
     refine sP hK 29 (.bool true) (by kernel_rfl) (by kernel_rfl) fun a hK => ?_
     refine sM hK 30 29 (by kernel_rfl) (.inl rfl) rfl fun a hK => ?_
     refine sP hK 31 (pA b1 3) (by kernel_rfl) (by kernel_rfl) fun a hK => ?_
     refine sL hK 32 (.slice e.A e.ks.length e.c) (by kernel_rfl) rfl rfl ((hM.row 1 rfl).cells 3 1) (by kernel_rfl) fun a hK => ?_
     refine sP hK 33 (.int .i64 ((e.ks.length : Nat) : Int)) (by kernel_rfl) (by kernel_rfl) fun a hK => ?_
     refine sP hK 34 (pA b4 2) (by kernel_rfl) (by kernel_rfl) fun a hK => ?_
     refine sL hK 35 (.int .i64 (kidsI e.op)) (by kernel_rfl) rfl rfl ((hM.row 0 rfl).cells 2 1) (by kernel_rfl) fun a hK => ?_
     by_cases h7 : (((e.ks.length : Nat) : Int) : Int) = (kidsI e.op)
     ·refine sP hK 36 (.bool true) (by kernel_rfl) (oB (b := (decide ((((e.ks.length : Nat) : Int) : Int) = (kidsI e.op)))) (by kernel_rfl) (decide_eq_true h7)) fun a hK => ?_
      refine sP hK 37 (.bool true) (by kernel_rfl) (by kernel_rfl) fun a hK => ?_
      refine sM hK 4 37 (by kernel_rfl) (.inr rfl) rfl fun a hK => ?_
      refine rps ?_
      refine wp_ret ?_
      exact ret_t hK rfl (u := (.bool true)) rfl (⟨(true, ()), rfl, hM.drop 2, by unfold mayE; rw [ex_in e, h5, h6, (decide_eq_true h7)]; rfl⟩)
     ·refine sP hK 36 (.bool false) (by kernel_rfl) (oB (b := (decide ((((e.ks.length : Nat) : Int) : Int) = (kidsI e.op)))) (by kernel_rfl) (decide_eq_false h7)) fun a hK => ?_
      refine sP hK 37 (.bool false) (by kernel_rfl) (by kernel_rfl) fun a hK => ?_
      refine sM hK 4 37 (by kernel_rfl) (.inr rfl) rfl fun a hK => ?_
      refine rps ?_
      refine wp_ret ?_
      exact ret_t hK rfl (u := (.bool false)) rfl (⟨(false, ()), rfl, hM.drop 2, by unfold mayE; rw [ex_in e, h5, h6, (decide_eq_false h7)]; rfl⟩)
    ·refine sR hK hM 28 #[Str e.nm, .bool (exR e.op)] (.bool false) (by kernel_rfl) (rC en_ast_nameMayBe rfl rfl (by kernel_rfl)) (ret_eq (ast_nameMayBe e.nm (exR e.op) _ (by omega)) (congrArg Value.bool h6)) fun a w hK hM => ?_
     refine sP hK 29 (.bool false) (by kernel_rfl) (by kernel_rfl) fun a hK => ?_
     refine sM hK 30 29 (by kernel_rfl) (.inl rfl) rfl fun a hK => ?_
     refine sN hK 31 (by kernel_rfl) fun a hK => ?_
     refine sN hK 32 (by kernel_rfl) fun a hK => ?_
     refine sN hK 33 (by kernel_rfl) fun a hK => ?_
     refine sN hK 34 (by kernel_rfl) fun a hK => ?_
     refine sN hK 35 (by kernel_rfl) fun a hK => ?_
     refine sN hK 36 (by kernel_rfl) fun a hK => ?_
     refine sP hK 37 (.bool false) (by kernel_rfl) (by kernel_rfl) fun a hK => ?_
     refine sM hK 4 37 (by kernel_rfl) (.inr rfl) rfl fun a hK => ?_
     refine rps ?_
     refine wp_ret ?_
     exact ret_t hK rfl (u := (.bool false)) rfl (⟨(false, ()), rfl, hM.drop 2, by unfold mayE; rw [ex_in e, h5, h6]; rfl⟩)
   ·refine sR hK hM 22 #[.int .i64 e.num, .bool (exN e.op)] (.bool false) (by kernel_rfl) (rC en_ast_numMayBe rfl rfl (by kernel_rfl)) (ret_eq (ast_numMayBe e.num (exN e.op) _) (congrArg Value.bool h5)) fun a w hK hM => ?_
    refine sM hK 23 22 (by kernel_rfl) (.inl rfl) rfl fun a hK => ?_
    refine sN hK 24 (by kernel_rfl) fun a hK => ?_
    refine sN hK 25 (by kernel_rfl) fun a hK => ?_
    refine sN hK 26 (by kernel_rfl) fun a hK => ?_
    refine sN hK 27 (by kernel_rfl) fun a hK => ?_
    refine sN hK 28 (by kernel_rfl) fun a hK => ?_
    refine sP hK 29 (.bool false) (by kernel_rfl) (by kernel_rfl) fun a hK => ?_
    refine sM hK 30 29 (by kernel_rfl) (.inl rfl) rfl fun a hK => ?_
    refine sN hK 31 (by kernel_rfl) fun a hK => ?_
    refine sN hK 32 (by kernel_rfl) fun a hK => ?_
    refine sN hK 33 (by kernel_rfl) fun a hK => ?_
    refine sN hK 34 (by kernel_rfl) fun a hK => ?_
    refine sN hK 35 (by kernel_rfl) fun a hK => ?_
    refine sN hK 36 (by kernel_rfl) fun a hK => ?_
    refine sP hK 37 (.bool false) (by kernel_rfl) (by kernel_rfl) fun a hK => ?_
    refine sM hK 4 37 (by kernel_rfl) (.inr rfl) rfl fun a hK => ?_
    refine rps ?_
    refine wp_ret ?_
    exact ret_t hK rfl (u := (.bool false)) rfl (⟨(false, ()), rfl, hM.drop 2, by unfold mayE; rw [ex_in e, h5]; rfl⟩)
set_option maxRecDepth 100000 in
set_option maxHeartbeats 4000000 in
theorem step_mayS (w0 : World) (hTab : TabOk w0) : StepS w0 (fun _ : Unit => []) okU mayS 57 #[] := by
 refine ⟨en_ast_stmtMayBe, ?_, fun _ _ _ _ _ _ => trivial⟩
 intro e d k s F w1 hM0 he hs hd hok
 obtain ⟨hnm, hlc, -⟩ := sm_sh hs
 replace hM0 : Mem w0 w1 F := hM0
 refine calls_KM (args := [vS e, vN d]) (n := 61) (env := [(0, vS e), (1, vN d)]) Tryz.func57 rfl rfl rfl ⟨rfl, rfl, trivial⟩ hM0 fun a w hK hM => ?_
 refine wp_seq ?_
 refine rg2 (by kernel_rfl) ?_
 refine sA hK hM 2 64 (cS e) (fun b => pA b 0) (by kernel_rfl) (by kernel_rfl) fun b1 a w hK hM => ?_
 refine sP hK 4 (.bool false) (by kernel_rfl) (by kernel_rfl) fun a hK => ?_
 refine rps ?_
 refine wp_seq ?_
 refine wp_seq ?_
 refine rg4 (by kernel_rfl) ?_
 refine sP hK 6 (pA b1 0) (by kernel_rfl) (by kernel_rfl) fun a hK => ?_
 refine sL hK 7 (.int .i64 e.kind) (by kernel_rfl) rfl rfl ((hM.row 0 rfl).cells 0 1) (by kernel_rfl) fun a hK => ?_
 rcases Bool.eq_false_or_eq_true (ptIs e.kind) with h2 | h2
 ·refine sR hK hM 8 #[.int .i64 e.kind] (.bool true) (by kernel_rfl) (rC en_ast_isKind rfl rfl (by kernel_rfl)) (ret_eq (ast_isKind e.kind _) (congrArg Value.bool h2)) fun a w hK hM => ?_
  refine sP hK 9 (.bool false) (by kernel_rfl) (by kernel_rfl) fun a hK => ?_
  refine rps ?_
  refine wp_cond_false (hK.get rfl) ?_
  refine wp_skip ?_
  refine wp_seq ?_
  have hk := h2; have hk2 : 1 ≤ e.kind ∧ e.kind ≤ 11 := by have := hk; unfold ptIs at this; simpa using this
  refine rg6 (by kernel_rfl) ?_
  refine sP hK 10 (pA b1 0) (by kernel_rfl) (by kernel_rfl) fun a hK => ?_
  refine sL hK 11 (.int .i64 e.kind) (by kernel_rfl) rfl rfl ((hM.row 0 rfl).cells 0 1) (by kernel_rfl) fun a hK => ?_
  refine sP hK 12 (.pointer (some ((⟨1, 0, none⟩ : Addr).add (e.kind.toNat * 6)))) (by kernel_rfl) (run_ixArr (e := 96) (k := e.kind.toNat) (s := 6) (n := 12) rfl rfl rfl (by omega) (by kernel_rfl) (by kernel_rfl) (by omega)) fun a hK => ?_
  refine sL hK 13 (.agg #[.bool (ptNm e.kind), .bool (ptLc e.kind), .bool (ptOr e.kind), .int .i64 (ptEx e.kind), .bool (ptTh e.kind), .bool (ptEl e.kind)]) (by kernel_rfl) rfl rfl (((hTab.stmts hk).on hM.below)) (by kernel_rfl) fun a hK => ?_
  refine sA hK hM 5 96 [.bool false, .bool false, .bool false, .int .i64 0, .bool false, .bool false] (fun b => pA b 0) (by kernel_rfl) (by kernel_rfl) fun b3 a w hK hM => ?_
  refine sS hK hM 0 [.bool (ptNm e.kind), .bool (ptLc e.kind), .bool (ptOr e.kind), .int .i64 (ptEx e.kind), .bool (ptTh e.kind), .bool (ptEl e.kind)] (by kernel_rfl) rfl rfl rfl rfl (by kernel_rfl) fun w hM => ?_
  replace hM := hM.to (.row b3 96 [.bool (ptNm e.kind), .bool (ptLc e.kind), .bool (ptOr e.kind), .int .i64 (ptEx e.kind), .bool (ptTh e.kind), .bool (ptEl e.kind)] :: .row b1 64 (cS e) :: F) (by kernel_rfl)
  refine rps ?_
  refine wp_seq ?_
  refine rg48 (by kernel_rfl) ?_
  refine sP hK 14 (pA b1 1) (by kernel_rfl) (by kernel_rfl) fun a hK => ?_
  refine sL hK 15 (Str e.nm) (by kernel_rfl) rfl rfl ((hM.row 1 rfl).cells 1 1) (by kernel_rfl) fun a hK => ?_
  refine sP hK 16 (pA b3 0) (by kernel_rfl) (by kernel_rfl) fun a hK => ?_
  refine sL hK 17 (.bool (ptNm e.kind)) (by kernel_rfl) rfl rfl ((hM.row 0 rfl).cells 0 1) (by kernel_rfl) fun a hK => ?_
  rcases Bool.eq_false_or_eq_true (nameOk e.nm (ptNm e.kind)) with h4 | h4
  ·refine sR hK hM 18 #[Str e.nm, .bool (ptNm e.kind)] (.bool true) (by kernel_rfl) (rC en_ast_nameMayBe rfl rfl (by kernel_rfl)) (ret_eq (ast_nameMayBe e.nm (ptNm e.kind) _ (by omega)) (congrArg Value.bool h4)) fun a w hK hM => ?_
   refine sM hK 19 18 (by kernel_rfl) (.inl rfl) rfl fun a hK => ?_
   refine sP hK 20 (pA b1 2) (by kernel_rfl) (by kernel_rfl) fun a hK => ?_
   refine sL hK 21 (Str e.loc) (by kernel_rfl) rfl rfl ((hM.row 1 rfl).cells 2 1) (by kernel_rfl) fun a hK => ?_
   refine sP hK 22 (pA b3 1) (by kernel_rfl) (by kernel_rfl) fun a hK => ?_
   refine sL hK 23 (.bool (ptLc e.kind)) (by kernel_rfl) rfl rfl ((hM.row 0 rfl).cells 1 1) (by kernel_rfl) fun a hK => ?_
   rcases Bool.eq_false_or_eq_true (nameOk e.loc (ptLc e.kind)) with h5 | h5
   ·refine sR hK hM 24 #[Str e.loc, .bool (ptLc e.kind)] (.bool true) (by kernel_rfl) (rC en_ast_nameMayBe rfl rfl (by kernel_rfl)) (ret_eq (ast_nameMayBe e.loc (ptLc e.kind) _ (by omega)) (congrArg Value.bool h5)) fun a w hK hM => ?_
    refine sP hK 25 (.bool true) (by kernel_rfl) (by kernel_rfl) fun a hK => ?_
    refine sM hK 26 25 (by kernel_rfl) (.inl rfl) rfl fun a hK => ?_
    refine sP hK 27 (pA b1 3) (by kernel_rfl) (by kernel_rfl) fun a hK => ?_
    refine sL hK 28 (.int .i64 e.ord) (by kernel_rfl) rfl rfl ((hM.row 1 rfl).cells 3 1) (by kernel_rfl) fun a hK => ?_
    refine sP hK 29 (pA b3 2) (by kernel_rfl) (by kernel_rfl) fun a hK => ?_
    refine sL hK 30 (.bool (ptOr e.kind)) (by kernel_rfl) rfl rfl ((hM.row 0 rfl).cells 2 1) (by kernel_rfl) fun a hK => ?_
    rcases Bool.eq_false_or_eq_true (ordOk e.ord (ptOr e.kind)) with h6 | h6
    ·refine sR hK hM 31 #[.int .i64 e.ord, .bool (ptOr e.kind)] (.bool true) (by kernel_rfl) (rC en_ast_orderMayBe rfl rfl (by kernel_rfl)) (ret_eq (ast_orderMayBe e.ord (ptOr e.kind) _) (congrArg Value.bool h6)) fun a w hK hM => ?_
     refine sP hK 32 (.bool true) (by kernel_rfl) (by kernel_rfl) fun a hK => ?_
     refine sM hK 33 32 (by kernel_rfl) (.inl rfl) rfl fun a hK => ?_
     refine sP hK 34 (pA b1 4) (by kernel_rfl) (by kernel_rfl) fun a hK => ?_
     refine sL hK 35 (.slice e.A1 e.es.length e.c1) (by kernel_rfl) rfl rfl ((hM.row 1 rfl).cells 4 1) (by kernel_rfl) fun a hK => ?_
     refine sP hK 36 (.int .i64 ((e.es.length : Nat) : Int)) (by kernel_rfl) (by kernel_rfl) fun a hK => ?_
     refine sP hK 37 (pA b3 3) (by kernel_rfl) (by kernel_rfl) fun a hK => ?_
     refine sL hK 38 (.int .i64 (ptEx e.kind)) (by kernel_rfl) rfl rfl ((hM.row 0 rfl).cells 3 1) (by kernel_rfl) fun a hK => ?_
     by_cases h7 : (((e.es.length : Nat) : Int) : Int) = (ptEx e.kind)
     ·refine sP hK 39 (.bool true) (by kernel_rfl) (oB (b := (decide ((((e.es.length : Nat) : Int) : Int) = (ptEx e.kind)))) (by kernel_rfl) (decide_eq_true h7)) fun a hK => ?_
      refine sP hK 40 (.bool true) (by kernel_rfl) (by kernel_rfl) fun a hK => ?_
      refine sM hK 41 40 (by kernel_rfl) (.inl rfl) rfl fun a hK => ?_
      refine sP hK 42 (pA b3 4) (by kernel_rfl) (by kernel_rfl) fun a hK => ?_
      refine sL hK 43 (.bool (ptTh e.kind)) (by kernel_rfl) rfl rfl ((hM.row 0 rfl).cells 4 1) (by kernel_rfl) fun a hK => ?_
      rcases Bool.eq_false_or_eq_true (ptTh e.kind) with h8 | h8
      ·refine sP hK 44 (.bool true) (by kernel_rfl) (oB (b := (ptTh e.kind)) (by kernel_rfl) h8) fun a hK => ?_
       refine sN hK 45 (by kernel_rfl) fun a hK => ?_
       refine sN hK 46 (by kernel_rfl) fun a hK => ?_
       refine sN hK 47 (by kernel_rfl) fun a hK => ?_
       refine sN hK 48 (by kernel_rfl) fun a hK => ?_
       refine sP hK 49 (.bool true) (by kernel_rfl) (by kernel_rfl) fun a hK => ?_
       refine sP hK 50 (.bool true) (by kernel_rfl) (by kernel_rfl) fun a hK => ?_
       refine sM hK 51 50 (by kernel_rfl) (.inl rfl) rfl fun a hK => ?_
       refine sP hK 52 (pA b3 5) (by kernel_rfl) (by kernel_rfl) fun a hK => ?_
       refine sL hK 53 (.bool (ptEl e.kind)) (by kernel_rfl) rfl rfl ((hM.row 0 rfl).cells 5 1) (by kernel_rfl) fun a hK => ?_
       rcases Bool.eq_false_or_eq_true (ptEl e.kind) with h9 | h9
       ·refine sP hK 54 (.bool true) (by kernel_rfl) (oB (b := (ptEl e.kind)) (by kernel_rfl) h9) fun a hK => ?_
        refine sN hK 55 (by kernel_rfl) fun a hK => ?_
        refine sN hK 56 (by kernel_rfl) fun a hK => ?_
        refine sN hK 57 (by kernel_rfl) fun a hK => ?_
        refine sN hK 58 (by kernel_rfl) fun a hK => ?_
        refine sP hK 59 (.bool true) (by kernel_rfl) (by kernel_rfl) fun a hK => ?_
        refine sP hK 60 (.bool true) (by kernel_rfl) (by kernel_rfl) fun a hK => ?_
        refine sM hK 4 60 (by kernel_rfl) (.inr rfl) rfl fun a hK => ?_
        refine rps ?_
        refine wp_ret ?_
        exact ret_t hK rfl (u := (.bool true)) rfl (⟨(true, ()), rfl, hM.drop 2, by unfold mayS; rw [sm_in h2, h4, h5, h6, (decide_eq_true h7), h8, h9]; rfl⟩)
       ·refine sP hK 54 (.bool false) (by kernel_rfl) (oB (b := (ptEl e.kind)) (by kernel_rfl) h9) fun a hK => ?_
        refine sP hK 55 (pA b1 6) (by kernel_rfl) (by kernel_rfl) fun a hK => ?_
        refine sL hK 56 (.slice e.A3 e.el.length e.c3) (by kernel_rfl) rfl rfl ((hM.row 1 rfl).cells 6 1) (by kernel_rfl) fun a hK => ?_
        refine sP hK 57 (.int .i64 ((e.el.length : Nat) : Int)) (by kernel_rfl) (by kernel_rfl) fun a hK => ?_
        by_cases h10 : (((e.el.length : Nat) : Int) : Int) = 0
        ·refine sP hK 58 (.bool true) (by kernel_rfl) (oB (b := (decide ((((e.el.length : Nat) : Int) : Int) = 0))) (by kernel_rfl) (decide_eq_true h10)) fun a hK => ?_
         refine sP hK 59 (.bool true) (by kernel_rfl) (by kernel_rfl) fun a hK => ?_
         refine sP hK 60 (.bool true) (by kernel_rfl) (by kernel_rfl) fun a hK => ?_
         refine sM hK 4 60 (by kernel_rfl) (.inr rfl) rfl fun a hK => ?_
         refine rps ?_
         refine wp_ret ?_
         exact ret_t hK rfl (u := (.bool true)) rfl (⟨(true, ()), rfl, hM.drop 2, by unfold mayS; rw [sm_in h2, h4, h5, h6, (decide_eq_true h7), h8, h9, (decide_eq_true h10)]; rfl⟩)
        ·refine sP hK 58 (.bool false) (by kernel_rfl) (oB (b := (decide ((((e.el.length : Nat) : Int) : Int) = 0))) (by kernel_rfl) (decide_eq_false h10)) fun a hK => ?_
         refine sP hK 59 (.bool false) (by kernel_rfl) (by kernel_rfl) fun a hK => ?_
         refine sP hK 60 (.bool false) (by kernel_rfl) (by kernel_rfl) fun a hK => ?_
         refine sM hK 4 60 (by kernel_rfl) (.inr rfl) rfl fun a hK => ?_
         refine rps ?_
         refine wp_ret ?_
         exact ret_t hK rfl (u := (.bool false)) rfl (⟨(false, ()), rfl, hM.drop 2, by unfold mayS; rw [sm_in h2, h4, h5, h6, (decide_eq_true h7), h8, h9, (decide_eq_false h10)]; rfl⟩)
      ·refine sP hK 44 (.bool false) (by kernel_rfl) (oB (b := (ptTh e.kind)) (by kernel_rfl) h8) fun a hK => ?_
       refine sP hK 45 (pA b1 5) (by kernel_rfl) (by kernel_rfl) fun a hK => ?_
       refine sL hK 46 (.slice e.A2 e.th.length e.c2) (by kernel_rfl) rfl rfl ((hM.row 1 rfl).cells 5 1) (by kernel_rfl) fun a hK => ?_
       refine sP hK 47 (.int .i64 ((e.th.length : Nat) : Int)) (by kernel_rfl) (by kernel_rfl) fun a hK => ?_
       by_cases h11 : (((e.th.length : Nat) : Int) : Int) = 0
       ·refine sP hK 48 (.bool true) (by kernel_rfl) (oB (b := (decide ((((e.th.length : Nat) : Int) : Int) = 0))) (by kernel_rfl) (decide_eq_true h11)) fun a hK => ?_
        refine sP hK 49 (.bool true) (by kernel_rfl) (by kernel_rfl) fun a hK => ?_
        refine sP hK 50 (.bool true) (by kernel_rfl) (by kernel_rfl) fun a hK => ?_
        refine sM hK 51 50 (by kernel_rfl) (.inl rfl) rfl fun a hK => ?_
        refine sP hK 52 (pA b3 5) (by kernel_rfl) (by kernel_rfl) fun a hK => ?_
        refine sL hK 53 (.bool (ptEl e.kind)) (by kernel_rfl) rfl rfl ((hM.row 0 rfl).cells 5 1) (by kernel_rfl) fun a hK => ?_
        rcases Bool.eq_false_or_eq_true (ptEl e.kind) with h12 | h12
        ·refine sP hK 54 (.bool true) (by kernel_rfl) (oB (b := (ptEl e.kind)) (by kernel_rfl) h12) fun a hK => ?_
         refine sN hK 55 (by kernel_rfl) fun a hK => ?_
         refine sN hK 56 (by kernel_rfl) fun a hK => ?_
         refine sN hK 57 (by kernel_rfl) fun a hK => ?_
         refine sN hK 58 (by kernel_rfl) fun a hK => ?_
         refine sP hK 59 (.bool true) (by kernel_rfl) (by kernel_rfl) fun a hK => ?_
         refine sP hK 60 (.bool true) (by kernel_rfl) (by kernel_rfl) fun a hK => ?_
         refine sM hK 4 60 (by kernel_rfl) (.inr rfl) rfl fun a hK => ?_
         refine rps ?_
         refine wp_ret ?_
         exact ret_t hK rfl (u := (.bool true)) rfl (⟨(true, ()), rfl, hM.drop 2, by unfold mayS; rw [sm_in h2, h4, h5, h6, (decide_eq_true h7), h8, (decide_eq_true h11), h12]; rfl⟩)
        ·refine sP hK 54 (.bool false) (by kernel_rfl) (oB (b := (ptEl e.kind)) (by kernel_rfl) h12) fun a hK => ?_
         refine sP hK 55 (pA b1 6) (by kernel_rfl) (by kernel_rfl) fun a hK => ?_
         refine sL hK 56 (.slice e.A3 e.el.length e.c3) (by kernel_rfl) rfl rfl ((hM.row 1 rfl).cells 6 1) (by kernel_rfl) fun a hK => ?_
         refine sP hK 57 (.int .i64 ((e.el.length : Nat) : Int)) (by kernel_rfl) (by kernel_rfl) fun a hK => ?_
         by_cases h13 : (((e.el.length : Nat) : Int) : Int) = 0
         ·refine sP hK 58 (.bool true) (by kernel_rfl) (oB (b := (decide ((((e.el.length : Nat) : Int) : Int) = 0))) (by kernel_rfl) (decide_eq_true h13)) fun a hK => ?_
          refine sP hK 59 (.bool true) (by kernel_rfl) (by kernel_rfl) fun a hK => ?_
          refine sP hK 60 (.bool true) (by kernel_rfl) (by kernel_rfl) fun a hK => ?_
          refine sM hK 4 60 (by kernel_rfl) (.inr rfl) rfl fun a hK => ?_
          refine rps ?_
          refine wp_ret ?_
          exact ret_t hK rfl (u := (.bool true)) rfl (⟨(true, ()), rfl, hM.drop 2, by unfold mayS; rw [sm_in h2, h4, h5, h6, (decide_eq_true h7), h8, (decide_eq_true h11), h12, (decide_eq_true h13)]; rfl⟩)
         ·refine sP hK 58 (.bool false) (by kernel_rfl) (oB (b := (decide ((((e.el.length : Nat) : Int) : Int) = 0))) (by kernel_rfl) (decide_eq_false h13)) fun a hK => ?_
          refine sP hK 59 (.bool false) (by kernel_rfl) (by kernel_rfl) fun a hK => ?_
          refine sP hK 60 (.bool false) (by kernel_rfl) (by kernel_rfl) fun a hK => ?_
          refine sM hK 4 60 (by kernel_rfl) (.inr rfl) rfl fun a hK => ?_
          refine rps ?_
          refine wp_ret ?_
          exact ret_t hK rfl (u := (.bool false)) rfl (⟨(false, ()), rfl, hM.drop 2, by unfold mayS; rw [sm_in h2, h4, h5, h6, (decide_eq_true h7), h8, (decide_eq_true h11), h12, (decide_eq_false h13)]; rfl⟩)
       ·refine sP hK 48 (.bool false) (by kernel_rfl) (oB (b := (decide ((((e.th.length : Nat) : Int) : Int) = 0))) (by kernel_rfl) (decide_eq_false h11)) fun a hK => ?_
        refine sP hK 49 (.bool false) (by kernel_rfl) (by kernel_rfl) fun a hK => ?_
        refine sP hK 50 (.bool false) (by kernel_rfl) (by kernel_rfl) fun a hK => ?_
        refine sM hK 51 50 (by kernel_rfl) (.inl rfl) rfl fun a hK => ?_
        refine sN hK 52 (by kernel_rfl) fun a hK => ?_
        refine sN hK 53 (by kernel_rfl) fun a hK => ?_
        refine sN hK 54 (by kernel_rfl) fun a hK => ?_
        refine sN hK 55 (by kernel_rfl) fun a hK => ?_
        refine sN hK 56 (by kernel_rfl) fun a hK => ?_
        refine sN hK 57 (by kernel_rfl) fun a hK => ?_
        refine sN hK 58 (by kernel_rfl) fun a hK => ?_
        refine sN hK 59 (by kernel_rfl) fun a hK => ?_
        refine sP hK 60 (.bool false) (by kernel_rfl) (by kernel_rfl) fun a hK => ?_
        refine sM hK 4 60 (by kernel_rfl) (.inr rfl) rfl fun a hK => ?_
        refine rps ?_
        refine wp_ret ?_
        exact ret_t hK rfl (u := (.bool false)) rfl (⟨(false, ()), rfl, hM.drop 2, by unfold mayS; rw [sm_in h2, h4, h5, h6, (decide_eq_true h7), h8, (decide_eq_false h11)]; rfl⟩)
     ·refine sP hK 39 (.bool false) (by kernel_rfl) (oB (b := (decide ((((e.es.length : Nat) : Int) : Int) = (ptEx e.kind)))) (by kernel_rfl) (decide_eq_false h7)) fun a hK => ?_
      refine sP hK 40 (.bool false) (by kernel_rfl) (by kernel_rfl) fun a hK => ?_
      refine sM hK 41 40 (by kernel_rfl) (.inl rfl) rfl fun a hK => ?_
      refine sN hK 42 (by kernel_rfl) fun a hK => ?_
      refine sN hK 43 (by kernel_rfl) fun a hK => ?_
      refine sN hK 44 (by kernel_rfl) fun a hK => ?_
      refine sN hK 45 (by kernel_rfl) fun a hK => ?_
      refine sN hK 46 (by kernel_rfl) fun a hK => ?_
      refine sN hK 47 (by kernel_rfl) fun a hK => ?_
      refine sN hK 48 (by kernel_rfl) fun a hK => ?_
      refine sN hK 49 (by kernel_rfl) fun a hK => ?_
      refine sP hK 50 (.bool false) (by kernel_rfl) (by kernel_rfl) fun a hK => ?_
      refine sM hK 51 50 (by kernel_rfl) (.inl rfl) rfl fun a hK => ?_
      refine sN hK 52 (by kernel_rfl) fun a hK => ?_
      refine sN hK 53 (by kernel_rfl) fun a hK => ?_
      refine sN hK 54 (by kernel_rfl) fun a hK => ?_
      refine sN hK 55 (by kernel_rfl) fun a hK => ?_
      refine sN hK 56 (by kernel_rfl) fun a hK => ?_
      refine sN hK 57 (by kernel_rfl) fun a hK => ?_
      refine sN hK 58 (by kernel_rfl) fun a hK => ?_
      refine sN hK 59 (by kernel_rfl) fun a hK => ?_
      refine sP hK 60 (.bool false) (by kernel_rfl) (by kernel_rfl) fun a hK => ?_
      refine sM hK 4 60 (by kernel_rfl) (.inr rfl) rfl fun a hK => ?_
      refine rps ?_
      refine wp_ret ?_
      exact ret_t hK rfl (u := (.bool false)) rfl (⟨(false, ()), rfl, hM.drop 2, by unfold mayS; rw [sm_in h2, h4, h5, h6, (decide_eq_false h7)]; rfl⟩)
    ·refine sR hK hM 31 #[.int .i64 e.ord, .bool (ptOr e.kind)] (.bool false) (by kernel_rfl) (rC en_ast_orderMayBe rfl rfl (by kernel_rfl)) (ret_eq (ast_orderMayBe e.ord (ptOr e.kind) _) (congrArg Value.bool h6)) fun a w hK hM => ?_
     refine sP hK 32 (.bool false) (by kernel_rfl) (by kernel_rfl) fun a hK => ?_
     refine sM hK 33 32 (by kernel_rfl) (.inl rfl) rfl fun a hK => ?_
     refine sN hK 34 (by kernel_rfl) fun a hK => ?_
     refine sN hK 35 (by kernel_rfl) fun a hK => ?_
     refine sN hK 36 (by kernel_rfl) fun a hK => ?_
     refine sN hK 37 (by kernel_rfl) fun a hK => ?_
     refine sN hK 38 (by kernel_rfl) fun a hK => ?_
     refine sN hK 39 (by kernel_rfl) fun a hK => ?_
     refine sP hK 40 (.bool false) (by kernel_rfl) (by kernel_rfl) fun a hK => ?_
     refine sM hK 41 40 (by kernel_rfl) (.inl rfl) rfl fun a hK => ?_
     refine sN hK 42 (by kernel_rfl) fun a hK => ?_
     refine sN hK 43 (by kernel_rfl) fun a hK => ?_
     refine sN hK 44 (by kernel_rfl) fun a hK => ?_
     refine sN hK 45 (by kernel_rfl) fun a hK => ?_
     refine sN hK 46 (by kernel_rfl) fun a hK => ?_
     refine sN hK 47 (by kernel_rfl) fun a hK => ?_
     refine sN hK 48 (by kernel_rfl) fun a hK => ?_
     refine sN hK 49 (by kernel_rfl) fun a hK => ?_
     refine sP hK 50 (.bool false) (by kernel_rfl) (by kernel_rfl) fun a hK => ?_
     refine sM hK 51 50 (by kernel_rfl) (.inl rfl) rfl fun a hK => ?_
     refine sN hK 52 (by kernel_rfl) fun a hK => ?_
     refine sN hK 53 (by kernel_rfl) fun a hK => ?_
     refine sN hK 54 (by kernel_rfl) fun a hK => ?_
     refine sN hK 55 (by kernel_rfl) fun a hK => ?_
     refine sN hK 56 (by kernel_rfl) fun a hK => ?_
     refine sN hK 57 (by kernel_rfl) fun a hK => ?_
     refine sN hK 58 (by kernel_rfl) fun a hK => ?_
     refine sN hK 59 (by kernel_rfl) fun a hK => ?_
     refine sP hK 60 (.bool false) (by kernel_rfl) (by kernel_rfl) fun a hK => ?_
     refine sM hK 4 60 (by kernel_rfl) (.inr rfl) rfl fun a hK => ?_
     refine rps ?_
     refine wp_ret ?_
     exact ret_t hK rfl (u := (.bool false)) rfl (⟨(false, ()), rfl, hM.drop 2, by unfold mayS; rw [sm_in h2, h4, h5, h6]; rfl⟩)
   ·refine sR hK hM 24 #[Str e.loc, .bool (ptLc e.kind)] (.bool false) (by kernel_rfl) (rC en_ast_nameMayBe rfl rfl (by kernel_rfl)) (ret_eq (ast_nameMayBe e.loc (ptLc e.kind) _ (by omega)) (congrArg Value.bool h5)) fun a w hK hM => ?_
    refine sP hK 25 (.bool false) (by kernel_rfl) (by kernel_rfl) fun a hK => ?_
    refine sM hK 26 25 (by kernel_rfl) (.inl rfl) rfl fun a hK => ?_
    refine sN hK 27 (by kernel_rfl) fun a hK => ?_
    refine sN hK 28 (by kernel_rfl) fun a hK => ?_
    refine sN hK 29 (by kernel_rfl) fun a hK => ?_
    refine sN hK 30 (by kernel_rfl) fun a hK => ?_
    refine sN hK 31 (by kernel_rfl) fun a hK => ?_
    refine sP hK 32 (.bool false) (by kernel_rfl) (by kernel_rfl) fun a hK => ?_
    refine sM hK 33 32 (by kernel_rfl) (.inl rfl) rfl fun a hK => ?_
    refine sN hK 34 (by kernel_rfl) fun a hK => ?_
    refine sN hK 35 (by kernel_rfl) fun a hK => ?_
    refine sN hK 36 (by kernel_rfl) fun a hK => ?_
    refine sN hK 37 (by kernel_rfl) fun a hK => ?_
    refine sN hK 38 (by kernel_rfl) fun a hK => ?_
    refine sN hK 39 (by kernel_rfl) fun a hK => ?_
    refine sP hK 40 (.bool false) (by kernel_rfl) (by kernel_rfl) fun a hK => ?_
    refine sM hK 41 40 (by kernel_rfl) (.inl rfl) rfl fun a hK => ?_
    refine sN hK 42 (by kernel_rfl) fun a hK => ?_
    refine sN hK 43 (by kernel_rfl) fun a hK => ?_
    refine sN hK 44 (by kernel_rfl) fun a hK => ?_
    refine sN hK 45 (by kernel_rfl) fun a hK => ?_
    refine sN hK 46 (by kernel_rfl) fun a hK => ?_
    refine sN hK 47 (by kernel_rfl) fun a hK => ?_
    refine sN hK 48 (by kernel_rfl) fun a hK => ?_
    refine sN hK 49 (by kernel_rfl) fun a hK => ?_
    refine sP hK 50 (.bool false) (by kernel_rfl) (by kernel_rfl) fun a hK => ?_
    refine sM hK 51 50 (by kernel_rfl) (.inl rfl) rfl fun a hK => ?_
    refine sN hK 52 (by kernel_rfl) fun a hK => ?_
    refine sN hK 53 (by kernel_rfl) fun a hK => ?_
    refine sN hK 54 (by kernel_rfl) fun a hK => ?_
    refine sN hK 55 (by kernel_rfl) fun a hK => ?_
    refine sN hK 56 (by kernel_rfl) fun a hK => ?_
    refine sN hK 57 (by kernel_rfl) fun a hK => ?_
    refine sN hK 58 (by kernel_rfl) fun a hK => ?_
    refine sN hK 59 (by kernel_rfl) fun a hK => ?_
    refine sP hK 60 (.bool false) (by kernel_rfl) (by kernel_rfl) fun a hK => ?_
    refine sM hK 4 60 (by kernel_rfl) (.inr rfl) rfl fun a hK => ?_
    refine rps ?_
    refine wp_ret ?_
    exact ret_t hK rfl (u := (.bool false)) rfl (⟨(false, ()), rfl, hM.drop 2, by unfold mayS; rw [sm_in h2, h4, h5]; rfl⟩)
  ·refine sR hK hM 18 #[Str e.nm, .bool (ptNm e.kind)] (.bool false) (by kernel_rfl) (rC en_ast_nameMayBe rfl rfl (by kernel_rfl)) (ret_eq (ast_nameMayBe e.nm (ptNm e.kind) _ (by omega)) (congrArg Value.bool h4)) fun a w hK hM => ?_
   refine sM hK 19 18 (by kernel_rfl) (.inl rfl) rfl fun a hK => ?_
   refine sN hK 20 (by kernel_rfl) fun a hK => ?_
   refine sN hK 21 (by kernel_rfl) fun a hK => ?_
   refine sN hK 22 (by kernel_rfl) fun a hK => ?_
   refine sN hK 23 (by kernel_rfl) fun a hK => ?_
   refine sN hK 24 (by kernel_rfl) fun a hK => ?_
   refine sP hK 25 (.bool false) (by kernel_rfl) (by kernel_rfl) fun a hK => ?_
   refine sM hK 26 25 (by kernel_rfl) (.inl rfl) rfl fun a hK => ?_
   refine sN hK 27 (by kernel_rfl) fun a hK => ?_
   refine sN hK 28 (by kernel_rfl) fun a hK => ?_
   refine sN hK 29 (by kernel_rfl) fun a hK => ?_
   refine sN hK 30 (by kernel_rfl) fun a hK => ?_
   refine sN hK 31 (by kernel_rfl) fun a hK => ?_
   refine sP hK 32 (.bool false) (by kernel_rfl) (by kernel_rfl) fun a hK => ?_
   refine sM hK 33 32 (by kernel_rfl) (.inl rfl) rfl fun a hK => ?_
   refine sN hK 34 (by kernel_rfl) fun a hK => ?_
   refine sN hK 35 (by kernel_rfl) fun a hK => ?_
   refine sN hK 36 (by kernel_rfl) fun a hK => ?_
   refine sN hK 37 (by kernel_rfl) fun a hK => ?_
   refine sN hK 38 (by kernel_rfl) fun a hK => ?_
   refine sN hK 39 (by kernel_rfl) fun a hK => ?_
   refine sP hK 40 (.bool false) (by kernel_rfl) (by kernel_rfl) fun a hK => ?_
   refine sM hK 41 40 (by kernel_rfl) (.inl rfl) rfl fun a hK => ?_
   refine sN hK 42 (by kernel_rfl) fun a hK => ?_
   refine sN hK 43 (by kernel_rfl) fun a hK => ?_
   refine sN hK 44 (by kernel_rfl) fun a hK => ?_
   refine sN hK 45 (by kernel_rfl) fun a hK => ?_
   refine sN hK 46 (by kernel_rfl) fun a hK => ?_
   refine sN hK 47 (by kernel_rfl) fun a hK => ?_
   refine sN hK 48 (by kernel_rfl) fun a hK => ?_
   refine sN hK 49 (by kernel_rfl) fun a hK => ?_
   refine sP hK 50 (.bool false) (by kernel_rfl) (by kernel_rfl) fun a hK => ?_
   refine sM hK 51 50 (by kernel_rfl) (.inl rfl) rfl fun a hK => ?_
   refine sN hK 52 (by kernel_rfl) fun a hK => ?_
   refine sN hK 53 (by kernel_rfl) fun a hK => ?_
   refine sN hK 54 (by kernel_rfl) fun a hK => ?_
   refine sN hK 55 (by kernel_rfl) fun a hK => ?_
   refine sN hK 56 (by kernel_rfl) fun a hK => ?_
   refine sN hK 57 (by kernel_rfl) fun a hK => ?_
   refine sN hK 58 (by kernel_rfl) fun a hK => ?_
   refine sN hK 59 (by kernel_rfl) fun a hK => ?_
   refine sP hK 60 (.bool false) (by kernel_rfl) (by kernel_rfl) fun a hK => ?_
   refine sM hK 4 60 (by kernel_rfl) (.inr rfl) rfl fun a hK => ?_
   refine rps ?_
   refine wp_ret ?_
   exact ret_t hK rfl (u := (.bool false)) rfl (⟨(false, ()), rfl, hM.drop 2, by unfold mayS; rw [sm_in h2, h4]; rfl⟩)
 ·refine sR hK hM 8 #[.int .i64 e.kind] (.bool false) (by kernel_rfl) (rC en_ast_isKind rfl rfl (by kernel_rfl)) (ret_eq (ast_isKind e.kind _) (congrArg Value.bool h2)) fun a w hK hM => ?_
  refine sP hK 9 (.bool true) (by kernel_rfl) (by kernel_rfl) fun a hK => ?_
  refine rps ?_
  refine wp_cond_true (hK.get rfl) ?_
  refine wp_seq ?_
  refine rg1 (by kernel_rfl) ?_
  refine sP hK 4 (.bool false) (by kernel_rfl) (by kernel_rfl) fun a hK => ?_
  refine rps ?_
  refine wp_ret ?_
  exact ret_t hK rfl (u := (.bool false)) rfl (⟨(false, ()), rfl, hM.drop 1, by unfold mayS; rw [sm_out h2]; rfl⟩)
set_option maxRecDepth 100000 in
set_option maxHeartbeats 4000000 in
theorem ast_declsMayBe (p : Pg) (w0 : World) (hp : PgAt w0 p) (hsh : pgSh p = true) : Calls Tryz.prog 55 #[.slice p.A1 p.ds.length p.c1] w0 (Ret w0 (.bool (dcsOk p.ds))) := by
 have hpl := hp.len
 obtain ⟨hshD, hshT⟩ := pg_sh hsh
 refine calls_K (args := [.slice p.A1 p.ds.length p.c1]) (n := 21) (env := [(0, .slice p.A1 p.ds.length p.c1)]) Tryz.func55 rfl rfl rfl ⟨rfl, trivial⟩ fun a w hK hM => ?_
 refine wp_seq ?_
 refine rg1 (by kernel_rfl) ?_
 refine sP hK 2 (.bool false) (by kernel_rfl) (by kernel_rfl) fun a hK => ?_
 refine rps ?_
 refine wp_seq ?_
 refine wp_seq ?_
 refine rg3 (by kernel_rfl) ?_
 refine sM hK 5 0 (by kernel_rfl) (.inl rfl) rfl fun a hK => ?_
 refine sP hK 6 (.int .i64 ((p.ds.length : Nat) : Int)) (by kernel_rfl) (by kernel_rfl) fun a hK => ?_
 refine sP hK 7 (.int .i64 0) (by kernel_rfl) (by kernel_rfl) fun a hK => ?_
 refine rps ?_
 refine wp_block ?_
 refine wLX (fun x : Nat => [(6, .int .i64 ((p.ds.length : Nat) : Int)), (5, .slice p.A1 p.ds.length p.c1), (2, .bool false), (0, .slice p.A1 p.ds.length p.c1), (7, vN x)]) (fun x : Nat => []) (fun x : Nat => x ≤ p.ds.length ∧ dcsOk (p.ds.drop x) = dcsOk p.ds) (fun x : Nat => p.ds.length - x) 0 (hK.sub ⟨rfl, rfl, rfl, rfl, rfl, trivial⟩) hM ⟨Nat.zero_le _, rfl⟩ ?_
 rintro i a w hK hM hR
 replace hK : Knows a 21 [(6, .int .i64 ((p.ds.length : Nat) : Int)), (5, .slice p.A1 p.ds.length p.c1), (2, .bool false), (0, .slice p.A1 p.ds.length p.c1), (7, vN i)] := hK
 replace hM : Mem w0 w [] := hM
 replace hR : i ≤ p.ds.length ∧ dcsOk (p.ds.drop i) = dcsOk p.ds := hR
 refine wp_seq ?_
 refine rg1 (by kernel_rfl) ?_
 by_cases h1 : (((i : Nat) : Int) : Int) < ((p.ds.length : Nat) : Int)
 ·refine sP hK 8 (.bool true) (by kernel_rfl) (oB (b := (decide ((((i : Nat) : Int) : Int) < ((p.ds.length : Nat) : Int)))) (by kernel_rfl) (decide_eq_true h1)) fun a hK => ?_
  refine rps ?_
  refine wp_seq ?_
  refine wp_cond_true (hK.get rfl) ?_
  refine wp_skip ?_
  refine wp_seq ?_
  refine wp_block ?_
  refine wp_seq ?_
  refine rg4 (by kernel_rfl) ?_
  obtain ⟨t2, ht2⟩ : ∃ t, p.ds[(i : Nat)]? = some t := ⟨_, List.getElem?_eq_getElem (by omega)⟩
  obtain ⟨⟨at2, At2, ct2⟩, et2⟩ := hp.decls _ _ ht2; have nt2 := et2
  refine sP hK 9 (.pointer (some (at2.add (i * 3)))) (by kernel_rfl) (rX (k := i) (s := 3) rfl rfl At2 rfl Tryz.underlying22 (by kernel_rfl) (by omega)) fun a hK => ?_
  refine sL hK 10 (.agg #[Str t2.nm, .bool t2.plain, .int .i64 t2.val]) (by kernel_rfl) rfl rfl ((ct2.on hM.below)) (by kernel_rfl) fun a hK => ?_
  refine sA hK hM 4 48 [Str [], .bool false, .int .i64 0] (fun b => pA b 0) (by kernel_rfl) (by kernel_rfl) fun b3 a w hK hM => ?_
  refine sS hK hM 0 [Str t2.nm, .bool t2.plain, .int .i64 t2.val] (by kernel_rfl) rfl rfl rfl rfl (by kernel_rfl) fun w hM => ?_
  replace hM := hM.to [.row b3 48 [Str t2.nm, .bool t2.plain, .int .i64 t2.val]] (by kernel_rfl)
  refine rps ?_
  refine wp_seq ?_
  refine rg9 (by kernel_rfl) ?_
  refine sP hK 11 (pA b3 0) (by kernel_rfl) (by kernel_rfl) fun a hK => ?_
  refine sL hK 12 (Str t2.nm) (by kernel_rfl) rfl rfl ((hM.row 0 rfl).cells 0 1) (by kernel_rfl) fun a hK => ?_
  rcases Bool.eq_false_or_eq_true (isWd t2.nm) with h4 | h4
  ·refine sR hK hM 13 #[Str t2.nm] (.bool true) (by kernel_rfl) (rC en_ast_isWord rfl rfl (by kernel_rfl)) (ret_eq (ast_isWord t2.nm _ (hshD _ (List.mem_of_getElem? ht2))) (congrArg Value.bool h4)) fun a w hK hM => ?_
   refine sP hK 14 (.bool false) (by kernel_rfl) (by kernel_rfl) fun a hK => ?_
   refine sM hK 15 14 (by kernel_rfl) (.inl rfl) rfl fun a hK => ?_
   refine sP hK 16 (pA b3 2) (by kernel_rfl) (by kernel_rfl) fun a hK => ?_
   refine sL hK 17 (.int .i64 t2.val) (by kernel_rfl) rfl rfl ((hM.row 0 rfl).cells 2 1) (by kernel_rfl) fun a hK => ?_
   by_cases h5 : (t2.val : Int) < 0
   ·refine sP hK 18 (.bool true) (by kernel_rfl) (oB (b := (decide ((t2.val : Int) < 0))) (by kernel_rfl) (decide_eq_true h5)) fun a hK => ?_
    refine sP hK 19 (.bool true) (by kernel_rfl) (by kernel_rfl) fun a hK => ?_
    refine rps ?_
    refine wp_cond_true (hK.get rfl) ?_
    refine wp_seq ?_
    refine rg1 (by kernel_rfl) ?_
    refine sP hK 2 (.bool false) (by kernel_rfl) (by kernel_rfl) fun a hK => ?_
    refine rps ?_
    refine wp_ret ?_
    exact ret_t hK rfl (u := (.bool false)) rfl (⟨by rw [← hR.2, dcsOk_step ht2, show dcOk t2 = false by unfold dcOk; rw [h4, (decide_eq_true h5)]; rfl]; rfl, hM.below⟩)
   ·refine sP hK 18 (.bool false) (by kernel_rfl) (oB (b := (decide ((t2.val : Int) < 0))) (by kernel_rfl) (decide_eq_false h5)) fun a hK => ?_
    refine sP hK 19 (.bool false) (by kernel_rfl) (by kernel_rfl) fun a hK => ?_
    refine rps ?_
    refine wp_cond_false (hK.get rfl) ?_
    refine wp_skip ?_
    refine rg2 (by kernel_rfl) ?_
    refine sP hK 20 (.int .i64 (((i + 1) : Nat) : Int)) (by kernel_rfl) (run_addN (i := i) (j := 1) rfl rfl rfl (by omega)) fun a hK => ?_
    refine sM hK 7 20 (by kernel_rfl) (.inl rfl) rfl fun a hK => ?_
    refine rps ?_
    have hRn : (i + 1) ≤ p.ds.length ∧ dcsOk (p.ds.drop (i + 1)) = dcsOk p.ds := ⟨by omega, by rw [← hR.2, dcsOk_step ht2, show dcOk t2 = true by unfold dcOk; rw [h4, (decide_eq_false h5)]; rfl]; rfl⟩
    have hmn : p.ds.length - (i + 1) < p.ds.length - i := by omega
    exact ⟨i + 1, hK.sub ⟨rfl, rfl, rfl, rfl, rfl, trivial⟩, (hM.drop 1), hRn, hmn⟩
  ·refine sR hK hM 13 #[Str t2.nm] (.bool false) (by kernel_rfl) (rC en_ast_isWord rfl rfl (by kernel_rfl)) (ret_eq (ast_isWord t2.nm _ (hshD _ (List.mem_of_getElem? ht2))) (congrArg Value.bool h4)) fun a w hK hM => ?_
   refine sP hK 14 (.bool true) (by kernel_rfl) (by kernel_rfl) fun a hK => ?_
   refine sM hK 15 14 (by kernel_rfl) (.inl rfl) rfl fun a hK => ?_
   refine sN hK 16 (by kernel_rfl) fun a hK => ?_
   refine sN hK 17 (by kernel_rfl) fun a hK => ?_
   refine sN hK 18 (by kernel_rfl) fun a hK => ?_
   refine sP hK 19 (.bool true) (by kernel_rfl) (by kernel_rfl) fun a hK => ?_
   refine rps ?_
   refine wp_cond_true (hK.get rfl) ?_
   refine wp_seq ?_
   refine rg1 (by kernel_rfl) ?_
   refine sP hK 2 (.bool false) (by kernel_rfl) (by kernel_rfl) fun a hK => ?_
   refine rps ?_
   refine wp_ret ?_
   exact ret_t hK rfl (u := (.bool false)) rfl (⟨by rw [← hR.2, dcsOk_step ht2, show dcOk t2 = false by unfold dcOk; rw [h4]; rfl]; rfl, hM.below⟩)
 ·refine sP hK 8 (.bool false) (by kernel_rfl) (oB (b := (decide ((((i : Nat) : Int) : Int) < ((p.ds.length : Nat) : Int)))) (by kernel_rfl) (decide_eq_false h1)) fun a hK => ?_
  refine rps ?_
  refine wp_seq ?_
  refine wp_cond_false (hK.get rfl) ?_
  refine wp_exit (exit_then (exit_then (exit_here 0 ?_)))
  refine wp_seq ?_
  refine rg1 (by kernel_rfl) ?_
  refine sP hK 2 (.bool true) (by kernel_rfl) (by kernel_rfl) fun a hK => ?_
  refine rps ?_
  refine wp_ret ?_
  exact ret_t hK rfl (u := (.bool true)) rfl (⟨by rw [← hR.2, dcsOk_end (by omega)], hM.below⟩)
end Go.Proofs.YtiigncmpbkfhmaaGreatDoor
namespace Go.Proofs.YtiigncmpbkfhmaaGreatDoor
open Go Go.RowKit
set_option maxRecDepth 100000 in
set_option maxHeartbeats 4000000 in
theorem ast_Check (p : Pg) (w0 : World) (hTab : TabOk w0) (hp : PgAt w0 p) (hsz : thsSz p.ts ≤ 100000) (hsh : pgSh p = true) : Calls Tryz.prog 20 #[vG p] w0 (Ret w0 (.int .i64 (chkP p))) := by
 refine calls_K (args := [vG p]) (n := 25) (env := [(0, vG p)]) Tryz.func20 rfl rfl rfl ⟨rfl, trivial⟩ fun a w hK hM => ?_
 refine wp_seq ?_
 refine rg2 (by kernel_rfl) ?_
 refine sA hK hM 1 25 [.slice p.A1 p.ds.length p.c1, .slice p.A2 p.ts.length p.c2] (fun b => pA b 0) (by kernel_rfl) (by kernel_rfl) fun b1 a w hK hM => ?_
 refine sP hK 2 (.int .i64 0) (by kernel_rfl) (by kernel_rfl) fun a hK => ?_
 refine rps ?_
 refine wp_seq ?_
 refine rg6 (by kernel_rfl) ?_
 refine sC hK hM 6 #[] (by kernel_rfl) (rC en_ast_limits rfl rfl (by kernel_rfl)) (ast_limits _) ?_
 rintro ⟨x2, y3, z4⟩ a w - hK hM
 refine sM hK 5 6 (by kernel_rfl) (.inl rfl) rfl fun a hK => ?_
 refine sP hK 7 (.func (.func 71) #[] #[pA x2 0]) (by kernel_rfl) (by kernel_rfl) fun a hK => ?_
 refine sP hK 8 (.func (.func 77) #[] #[pA y3 0]) (by kernel_rfl) (by kernel_rfl) fun a hK => ?_
 refine sM hK 3 7 (by kernel_rfl) (.inr rfl) rfl fun a hK => ?_
 refine sM hK 4 8 (by kernel_rfl) (.inr rfl) rfl fun a hK => ?_
 refine rps ?_
 refine wp_seq ?_
 refine wp_block ?_
 refine wp_seq ?_
 refine rg6 (by kernel_rfl) ?_
 refine sL hK 10 (vG p) (by kernel_rfl) rfl rfl ((hM.row 3 rfl).cells 0 2) (by kernel_rfl) fun a hK => ?_
 refine sM hK 11 3 (by kernel_rfl) (.inl rfl) rfl fun a hK => ?_
 refine sM hK 12 4 (by kernel_rfl) (.inl rfl) rfl fun a hK => ?_
 have hc6m : Mem w0 _ [.row x2 74 [.func (.func 72) #[] #[pA z4 0]], .row y3 74 [.func (.func 72) #[] #[pA z4 0]], .row z4 3 [vN 0], .row b1 25 [.slice p.A1 p.ds.length p.c1, .slice p.A2 p.ts.length p.c2]] := hM
 have hc6 := ast_walkThreads (any_expr2 (step_lim _ z4) x2 y3) (any_stmt2 (step_lim _ z4) x2 y3) p 0 0 [.row b1 25 [.slice p.A1 p.ds.length p.c1, .slice p.A2 p.ts.length p.c2]] _ (hp.on (Below.refl _ _)) (by omega) hsh hc6m (by unfold okN; omega)
 refine stepCallIn hK 13 #[vG p, .func (.func 71) #[] #[pA x2 0], .func (.func 77) #[] #[pA y3 0]] (by kernel_rfl) (rC en_ast_walkThreads rfl rfl (by kernel_rfl)) (hc6) ?_
 rintro ⟨r7, q8⟩ a w ⟨hR9, -⟩ hK hM
 replace hM := hM.to [.row x2 74 [.func (.func 72) #[] #[pA z4 0]], .row y3 74 [.func (.func 72) #[] #[pA z4 0]], .row z4 3 [vN q8], .row b1 25 [.slice p.A1 p.ds.length p.c1, .slice p.A2 p.ts.length p.c2]] (by kernel_rfl)
 rcases Bool.eq_false_or_eq_true (!r7) with h11 | h11
 ·refine sP hK 14 (.bool true) (by kernel_rfl) (oB (b := (!r7)) (by kernel_rfl) h11) fun a hK => ?_
  refine sM hK 9 14 (by kernel_rfl) (.inr rfl) rfl fun a hK => ?_
  refine rps ?_
  refine wp_cond_true (hK.get rfl) ?_
  refine wp_seq ?_
  refine rg1 (by kernel_rfl) ?_
  refine sP hK 2 (.int .i64 3) (by kernel_rfl) (by kernel_rfl) fun a hK => ?_
  refine rps ?_
  refine wp_ret ?_
  exact ret_t hK rfl (u := (.int .i64 3)) rfl (⟨by unfold chkP; rw [lim_chk hR9, h11, if_pos rfl], hM.below⟩)
 ·refine sP hK 14 (.bool false) (by kernel_rfl) (oB (b := (!r7)) (by kernel_rfl) h11) fun a hK => ?_
  refine sM hK 9 14 (by kernel_rfl) (.inr rfl) rfl fun a hK => ?_
  refine rps ?_
  refine wp_cond_false (hK.get rfl) ?_
  refine wp_seq ?_
  refine rg10 (by kernel_rfl) ?_
  refine sP hK 16 (pA b1 0) (by kernel_rfl) (by kernel_rfl) fun a hK => ?_
  refine sL hK 17 (.slice p.A1 p.ds.length p.c1) (by kernel_rfl) rfl rfl ((hM.row 3 rfl).cells 0 1) (by kernel_rfl) fun a hK => ?_
  rcases Bool.eq_false_or_eq_true (dcsOk p.ds) with h12 | h12
  ·refine sR hK hM 18 #[.slice p.A1 p.ds.length p.c1] (.bool true) (by kernel_rfl) (rC en_ast_declsMayBe rfl rfl (by kernel_rfl)) (ret_eq (ast_declsMayBe p _ (hp.on hM.below) hsh) (congrArg Value.bool h12)) fun a w hK hM => ?_
   refine sP hK 19 (.bool false) (by kernel_rfl) (by kernel_rfl) fun a hK => ?_
   refine sM hK 20 19 (by kernel_rfl) (.inl rfl) rfl fun a hK => ?_
   refine sL hK 21 (vG p) (by kernel_rfl) rfl rfl ((hM.row 3 rfl).cells 0 2) (by kernel_rfl) fun a hK => ?_
   have hc13m : Mem w0 _ [.row x2 74 [.func (.func 72) #[] #[pA z4 0]], .row y3 74 [.func (.func 72) #[] #[pA z4 0]], .row z4 3 [vN q8], .row b1 25 [.slice p.A1 p.ds.length p.c1, .slice p.A2 p.ts.length p.c2]] := hM
   have hc13 := ast_walkThreads (step_mayE w0 hTab) (step_mayS w0 hTab) p 0 () [.row x2 74 [.func (.func 72) #[] #[pA z4 0]], .row y3 74 [.func (.func 72) #[] #[pA z4 0]], .row z4 3 [vN q8], .row b1 25 [.slice p.A1 p.ds.length p.c1, .slice p.A2 p.ts.length p.c2]] _ (hp.on (Below.refl _ _)) (by omega) hsh hc13m trivial
   refine stepCallIn hK 22 #[vG p, .func (.func 56) #[] #[], .func (.func 57) #[] #[]] (by kernel_rfl) (rC en_ast_walkThreads rfl rfl (by kernel_rfl)) (hc13) ?_
   rintro ⟨r14, q15⟩ a w ⟨hR16, -⟩ hK hM
   replace hM := hM.to [.row x2 74 [.func (.func 72) #[] #[pA z4 0]], .row y3 74 [.func (.func 72) #[] #[pA z4 0]], .row z4 3 [vN q8], .row b1 25 [.slice p.A1 p.ds.length p.c1, .slice p.A2 p.ts.length p.c2]] (by kernel_rfl)
   have hth : thsOk p.ts = r14 := by rw [may_ths] at hR16; exact (congrArg Prod.fst hR16).symm
   rcases Bool.eq_false_or_eq_true (!r14) with h18 | h18
   ·refine sP hK 23 (.bool true) (by kernel_rfl) (oB (b := (!r14)) (by kernel_rfl) h18) fun a hK => ?_
    refine sP hK 24 (.bool true) (by kernel_rfl) (by kernel_rfl) fun a hK => ?_
    refine sM hK 15 24 (by kernel_rfl) (.inr rfl) rfl fun a hK => ?_
    refine rps ?_
    refine wp_cond_true (hK.get rfl) ?_
    refine wp_seq ?_
    refine rg1 (by kernel_rfl) ?_
    refine sP hK 2 (.int .i64 2) (by kernel_rfl) (by kernel_rfl) fun a hK => ?_
    refine rps ?_
    refine wp_ret ?_
    exact ret_t hK rfl (u := (.int .i64 2)) rfl (⟨by unfold chkP; rw [lim_chk hR9, h11, if_neg (by decide), h12, if_pos rfl, hth, bf_of h18, if_neg (by decide)], hM.below⟩)
   ·refine sP hK 23 (.bool false) (by kernel_rfl) (oB (b := (!r14)) (by kernel_rfl) h18) fun a hK => ?_
    refine sP hK 24 (.bool false) (by kernel_rfl) (by kernel_rfl) fun a hK => ?_
    refine sM hK 15 24 (by kernel_rfl) (.inr rfl) rfl fun a hK => ?_
    refine rps ?_
    refine wp_cond_false (hK.get rfl) ?_
    refine wp_skip ?_
    refine wp_seq ?_
    refine rg1 (by kernel_rfl) ?_
    refine sP hK 2 (.int .i64 0) (by kernel_rfl) (by kernel_rfl) fun a hK => ?_
    refine rps ?_
    refine wp_ret ?_
    exact ret_t hK rfl (u := (.int .i64 0)) rfl (⟨by unfold chkP; rw [lim_chk hR9, h11, if_neg (by decide), h12, if_pos rfl, hth, bt_of h18, if_pos rfl], hM.below⟩)
  ·refine sR hK hM 18 #[.slice p.A1 p.ds.length p.c1] (.bool false) (by kernel_rfl) (rC en_ast_declsMayBe rfl rfl (by kernel_rfl)) (ret_eq (ast_declsMayBe p _ (hp.on hM.below) hsh) (congrArg Value.bool h12)) fun a w hK hM => ?_
   refine sP hK 19 (.bool true) (by kernel_rfl) (by kernel_rfl) fun a hK => ?_
   refine sM hK 20 19 (by kernel_rfl) (.inl rfl) rfl fun a hK => ?_
   refine sN hK 21 (by kernel_rfl) fun a hK => ?_
   refine sN hK 22 (by kernel_rfl) fun a hK => ?_
   refine sN hK 23 (by kernel_rfl) fun a hK => ?_
   refine sP hK 24 (.bool true) (by kernel_rfl) (by kernel_rfl) fun a hK => ?_
   refine sM hK 15 24 (by kernel_rfl) (.inr rfl) rfl fun a hK => ?_
   refine rps ?_
   refine wp_cond_true (hK.get rfl) ?_
   refine wp_seq ?_
   refine rg1 (by kernel_rfl) ?_
   refine sP hK 2 (.int .i64 2) (by kernel_rfl) (by kernel_rfl) fun a hK => ?_
   refine rps ?_
   refine wp_ret ?_
   exact ret_t hK rfl (u := (.int .i64 2)) rfl (⟨by unfold chkP; rw [lim_chk hR9, h11, if_neg (by decide), h12, if_neg (by decide)], hM.below⟩)
theorem StepE.more {σ : Type} {w0 : World} {G : σ → List It} {ok : Nat → σ → Prop} {f : Ex → Nat → σ → Bool × σ} {fe : FuncId} {ce : Array Value} (h : StepE w0 G ok f fe ce) (X : List It) : StepE w0 (fun s => X ++ G s) ok f fe ce := by
 refine ⟨h.enters, ?_, h.ok⟩
 intro e d k s F w hM he hs hd hok
 have h1 : Mem w0 w (G s ++ (X ++ F)) := hM.perm (by rw [List.append_assoc]; exact perm_mid X (G s) F)
 refine (h.call e d k s (X ++ F) w h1 he hs hd hok).mono fun _ _ h2 => Gives.perm (fun r => ?_) h2
 rw [List.append_assoc]; exact perm_mid2 X (G r.2) F
theorem StepS.more {σ : Type} {w0 : World} {G : σ → List It} {ok : Nat → σ → Prop} {f : Sm → Nat → σ → Bool × σ} {fe : FuncId} {ce : Array Value} (h : StepS w0 G ok f fe ce) (X : List It) : StepS w0 (fun s => X ++ G s) ok f fe ce := by
 refine ⟨h.enters, ?_, h.ok⟩
 intro e d k s F w hM he hs hd hok
 have h1 : Mem w0 w (G s ++ (X ++ F)) := hM.perm (by rw [List.append_assoc]; exact perm_mid X (G s) F)
 refine (h.call e d k s (X ++ F) w h1 he hs hd hok).mono fun _ _ h2 => Gives.perm (fun r => ?_) h2
 rw [List.append_assoc]; exact perm_mid2 X (G r.2) F
end Go.Proofs.YtiigncmpbkfhmaaGreatDoor
namespace Go.Proofs
open Go.Shelf
def Tryz.laysM316_ren : Go.Shelf.Ren := ⟨fun | 316 => 69 | n => n, fun | 9 => 9 | 3 => 3 | 4 => 4 | 37 => 105 | 0 => 0 | 127 => 106 | 5 => 5 | n => n, fun | n => n⟩
theorem Tryz.laysM316 : Go.Proofs.LaysM.n316 Tryz.prog Tryz.laysM316_ren := {
  mixed := by kernel_rfl
  f316 := Tryz.func69.trans (congrArg some (by kernel_rfl))
  t0 := Tryz.underlying0
  a0 := Tryz.isAgg0
  z0 := Tryz.sizeOf0
  v0 := Tryz.zeroValue0
  t3 := Tryz.underlying3
  a3 := Tryz.isAgg3
  z3 := Tryz.sizeOf3
  v3 := Tryz.zeroValue3
  t4 := Tryz.underlying4
  a4 := Tryz.isAgg4
  z4 := Tryz.sizeOf4
  v4 := Tryz.zeroValue4
  t9 := Tryz.underlying9
  a9 := Tryz.isAgg9
  z9 := Tryz.sizeOf9
  v9 := Tryz.zeroValue9
  t37 := Tryz.underlying105
  a37 := Tryz.isAgg105
  z37 := Tryz.sizeOf105
  v37 := Tryz.zeroValue105
  t127 := Tryz.underlying106
  a127 := Tryz.isAgg106
  z127 := Tryz.sizeOf106
  v127 := Tryz.zeroValue106
  t5 := Tryz.underlying5
  a5 := Tryz.isAgg5
  z5 := Tryz.sizeOf5
  v5 := Tryz.zeroValue5
  i0 := by kernel_rfl
  i3 := by kernel_rfl
  i4 := by kernel_rfl
  i5 := by kernel_rfl
  i9 := by kernel_rfl
  i37 := by kernel_rfl
  i127 := by kernel_rfl }
open Go.RowKit in
theorem Tryz.stringslite_Clone (s : ByteArray) (w : World) (hlim : s.size ≤ 281474976710656) :
    Calls Tryz.prog 69 #[.string s] w fun e w' => e = .returned (.string s) ∧ Below w.heap.size w w' := Any.stringslite_Clone Tryz.laysM316 s w hlim
def Tryz.keys41_ren : Go.Shelf.Ren := ⟨fun | 7 => 41 | 10 => 68 | n => n, fun | 23 => 59 | 26 => 9 | 3 => 60 | 28 => 69 | 0 => 0 | 27 => 68 | 33 => 61 | 4 => 4 | n => n, fun | n => n⟩
theorem Tryz.keys41 : Go.Proofs.SlLaysZ.n7 Tryz.prog Tryz.keys41_ren := {
  mixed := by kernel_rfl
  f7 := ⟨Tryz.f41.name, by decide, Tryz.func41.trans (congrArg some (by kernel_rfl))⟩
  f10 := ⟨Tryz.f68.name, by decide, Tryz.func68.trans (congrArg some (by kernel_rfl))⟩
  t0 := Tryz.underlying0
  a0 := Tryz.isAgg0
  z0 := Tryz.sizeOf0
  v0 := Tryz.zeroValue0
  t4 := Tryz.underlying4
  a4 := Tryz.isAgg4
  z4 := Tryz.sizeOf4
  v4 := Tryz.zeroValue4
  t23 := Tryz.underlying59
  a23 := Tryz.isAgg59
  z23 := Tryz.sizeOf59
  v23 := Tryz.zeroValue59
  t26 := Tryz.underlying9
  a26 := Tryz.isAgg9
  z26 := Tryz.sizeOf9
  v26 := Tryz.zeroValue9
  t27 := Tryz.underlying68
  a27 := Tryz.isAgg68
  z27 := Tryz.sizeOf68
  v27 := Tryz.zeroValue68
  t28 := Tryz.underlying69
  a28 := Tryz.isAgg69
  z28 := Tryz.sizeOf69
  v28 := Tryz.zeroValue69
  t33 := Tryz.underlying61
  a33 := Tryz.isAgg61
  z33 := Tryz.sizeOf61
  v33 := Tryz.zeroValue61 }
def Tryz.sorted40_ren : Go.Shelf.Ren := ⟨fun | 6 => 40 | 8 => 66 | 9 => 67 | 11 => 81 | 13 => 83 | 12 => 82 | 23 => 94 | 24 => 95 | 14 => 85 | 15 => 86 | 16 => 87 | 17 => 88 | 18 => 89 | 19 => 90 | 20 => 91 | 21 => 92 | 22 => 93 | 25 => 101 | 26 => 102 | 27 => 103 | 28 => 104 | 29 => 105 | 30 => 106 | 31 => 108 | n => n, fun | 26 => 9 | 28 => 69 | 24 => 36 | 0 => 0 | 3 => 3 | 37 => 104 | 48 => 118 | 50 => 120 | 4 => 4 | 40 => 111 | 39 => 110 | 45 => 107 | 5 => 5 | 9 => 9 | 51 => 125 | 55 => 129 | 57 => 132 | 58 => 133 | 33 => 61 | n => n, fun | n => n⟩
theorem Tryz.sorted40 : Go.Proofs.SlLaysZ.n6 Tryz.prog Tryz.sorted40_ren := {
  mixed := by kernel_rfl
  f6 := ⟨Tryz.f40.name, by decide, Tryz.func40.trans (congrArg some (by kernel_rfl))⟩
  f8 := ⟨Tryz.f66.name, by decide, Tryz.func66.trans (congrArg some (by kernel_rfl))⟩
  f11 := ⟨Tryz.f81.name, by decide, Tryz.func81.trans (congrArg some (by kernel_rfl))⟩
  t0 := Tryz.underlying0
  a0 := Tryz.isAgg0
  z0 := Tryz.sizeOf0
  v0 := Tryz.zeroValue0
  t24 := Tryz.underlying36
  a24 := Tryz.isAgg36
  z24 := Tryz.sizeOf36
  v24 := Tryz.zeroValue36
  t26 := Tryz.underlying9
  a26 := Tryz.isAgg9
  z26 := Tryz.sizeOf9
  v26 := Tryz.zeroValue9
  t28 := Tryz.underlying69
  a28 := Tryz.isAgg69
  z28 := Tryz.sizeOf69
  v28 := Tryz.zeroValue69
  i26 := by kernel_rfl }
def Tryz.sort67_ren : Go.Shelf.Ren := ⟨fun | 6 => 67 | 8 => 83 | 9 => 82 | 19 => 94 | 20 => 95 | 21 => 85 | 22 => 86 | 23 => 87 | 24 => 88 | 25 => 89 | 26 => 90 | 27 => 91 | 28 => 92 | 29 => 93 | 36 => 101 | 31 => 102 | 32 => 103 | 37 => 104 | 38 => 105 | 39 => 106 | 41 => 108 | n => n, fun | 27 => 36 | 29 => 9 | 3 => 3 | 32 => 104 | 26 => 36 | 0 => 0 | 44 => 118 | 46 => 120 | 4 => 4 | 36 => 111 | 35 => 110 | 41 => 107 | 5 => 5 | 9 => 9 | 53 => 125 | 57 => 129 | 63 => 132 | 64 => 133 | n => n, fun | n => n⟩
theorem Tryz.sort67 : Go.Proofs.SlLaysM.n6 Tryz.prog Tryz.sort67_ren := {
  mixed := by kernel_rfl
  f6 := ⟨Tryz.f67.name, by decide, Tryz.func67.trans (congrArg some (by kernel_rfl))⟩
  f8 := Tryz.func83.trans (congrArg some (by kernel_rfl))
  f9 := ⟨Tryz.f82.name, by decide, Tryz.func82.trans (congrArg some (by kernel_rfl))⟩
  f19 := Tryz.func94.trans (congrArg some (by kernel_rfl))
  f20 := Tryz.func95.trans (congrArg some (by kernel_rfl))
  f21 := ⟨Tryz.f85.name, by decide, Tryz.func85.trans (congrArg some (by kernel_rfl))⟩
  f22 := ⟨Tryz.f86.name, by decide, Tryz.func86.trans (congrArg some (by kernel_rfl))⟩
  f23 := ⟨Tryz.f87.name, by decide, Tryz.func87.trans (congrArg some (by kernel_rfl))⟩
  f24 := ⟨Tryz.f88.name, by decide, Tryz.func88.trans (congrArg some (by kernel_rfl))⟩
  f25 := ⟨Tryz.f89.name, by decide, Tryz.func89.trans (congrArg some (by kernel_rfl))⟩
  f26 := ⟨Tryz.f90.name, by decide, Tryz.func90.trans (congrArg some (by kernel_rfl))⟩
  f27 := ⟨Tryz.f91.name, by decide, Tryz.func91.trans (congrArg some (by kernel_rfl))⟩
  f28 := ⟨Tryz.f92.name, by decide, Tryz.func92.trans (congrArg some (by kernel_rfl))⟩
  f29 := ⟨Tryz.f93.name, by decide, Tryz.func93.trans (congrArg some (by kernel_rfl))⟩
  f31 := Tryz.func102.trans (congrArg some (by kernel_rfl))
  f32 := Tryz.func103.trans (congrArg some (by kernel_rfl))
  f36 := ⟨Tryz.f101.name, by decide, Tryz.func101.trans (congrArg some (by kernel_rfl))⟩
  f37 := ⟨Tryz.f104.name, by decide, Tryz.func104.trans (congrArg some (by kernel_rfl))⟩
  f38 := ⟨Tryz.f105.name, by decide, Tryz.func105.trans (congrArg some (by kernel_rfl))⟩
  f39 := ⟨Tryz.f106.name, by decide, Tryz.func106.trans (congrArg some (by kernel_rfl))⟩
  f41 := ⟨Tryz.f108.name, by decide, Tryz.func108.trans (congrArg some (by kernel_rfl))⟩
  t0 := Tryz.underlying0
  a0 := Tryz.isAgg0
  z0 := Tryz.sizeOf0
  v0 := Tryz.zeroValue0
  t3 := Tryz.underlying3
  a3 := Tryz.isAgg3
  z3 := Tryz.sizeOf3
  v3 := Tryz.zeroValue3
  t4 := Tryz.underlying4
  a4 := Tryz.isAgg4
  z4 := Tryz.sizeOf4
  v4 := Tryz.zeroValue4
  t5 := Tryz.underlying5
  a5 := Tryz.isAgg5
  z5 := Tryz.sizeOf5
  v5 := Tryz.zeroValue5
  t9 := Tryz.underlying9
  a9 := Tryz.isAgg9
  z9 := Tryz.sizeOf9
  v9 := Tryz.zeroValue9
  t26 := Tryz.underlying36
  a26 := Tryz.isAgg36
  z26 := Tryz.sizeOf36
  v26 := Tryz.zeroValue36
  t27 := Tryz.underlying36
  a27 := Tryz.isAgg36
  z27 := Tryz.sizeOf36
  v27 := Tryz.zeroValue36
  t29 := Tryz.underlying9
  a29 := Tryz.isAgg9
  z29 := Tryz.sizeOf9
  v29 := Tryz.zeroValue9
  t32 := Tryz.underlying104
  a32 := Tryz.isAgg104
  z32 := Tryz.sizeOf104
  v32 := Tryz.zeroValue104
  t35 := Tryz.underlying110
  a35 := Tryz.isAgg110
  z35 := Tryz.sizeOf110
  v35 := Tryz.zeroValue110
  t36 := Tryz.underlying111
  a36 := Tryz.isAgg111
  z36 := Tryz.sizeOf111
  v36 := Tryz.zeroValue111
  t41 := Tryz.underlying107
  a41 := Tryz.isAgg107
  z41 := Tryz.sizeOf107
  v41 := Tryz.zeroValue107
  t44 := Tryz.underlying118
  a44 := Tryz.isAgg118
  z44 := Tryz.sizeOf118
  v44 := Tryz.zeroValue118
  t46 := Tryz.underlying120
  a46 := Tryz.isAgg120
  z46 := Tryz.sizeOf120
  v46 := Tryz.zeroValue120
  t53 := Tryz.underlying125
  a53 := Tryz.isAgg125
  z53 := Tryz.sizeOf125
  v53 := Tryz.zeroValue125
  t57 := Tryz.underlying129
  a57 := Tryz.isAgg129
  z57 := Tryz.sizeOf129
  v57 := Tryz.zeroValue129
  t63 := Tryz.underlying132
  a63 := Tryz.isAgg132
  z63 := Tryz.sizeOf132
  v63 := Tryz.zeroValue132
  t64 := Tryz.underlying133
  a64 := Tryz.isAgg133
  z64 := Tryz.sizeOf133
  v64 := Tryz.zeroValue133 }
open Go.RowKit Go.Maps Go.Sort in
theorem Tryz.sorts40 (m : Nat) : AnyZ.SortsIn Tryz.prog Tryz.sorted40_ren Fence.wide m :=
  ⟨fun blk off cap ss W hH hblk hsz => callsIn_wide.2 (AnyM.slices_Sort_string Tryz.sort67 blk off cap ss W hH hblk hsz),
   fun p cap W => callsIn_wide.2 (AnyM.slices_Sort_string_none Tryz.sort67 p cap W)⟩
end Go.Proofs
namespace Go.Proofs.YtiigncmpbkfhmaaGreatDoor
open Go Go.RowKit
theorem en_cantileverkit_Texts : Enters Tryz.prog 13 := enters_of Tryz.func13 (by kernel_rfl) rfl
theorem en_cantileverkit_Ints : Enters Tryz.prog 16 := enters_of Tryz.func16 (by kernel_rfl) rfl
theorem en_strings_Clone : Enters Tryz.prog 42 := enters_of Tryz.func42 (by kernel_rfl) rfl
theorem list_same {α : Type} {l m : List α} (h : l.length = m.length) (h2 : ∀ j, j < l.length → l[j]? = m[j]?) : l = m := by
 apply List.ext_getElem?
 intro j
 rcases Nat.lt_or_ge j l.length with hj | hj
 ·exact h2 j hj
 ·rw [List.getElem?_eq_none (by omega), List.getElem?_eq_none (by omega)]
set_option maxRecDepth 100000 in
set_option maxHeartbeats 4000000 in
theorem kit_Texts {A B : Option Addr} {c d : Nat} (l m : List (List UInt8)) (w0 : World) (hl : HandAt w0 A (fun x => [Str x]) 1 l) (hm : HandAt w0 B (fun x => [Str x]) 1 m) (hbl : l.length ≤ 1000000) (hbm : m.length ≤ 1000000) : Calls Tryz.prog 13 #[.slice A l.length c, .slice B m.length d] w0 (Ret w0 (.bool (decide (l = m)))) := by
 refine calls_K (args := [.slice A l.length c, .slice B m.length d]) (n := 26) (env := [(0, .slice A l.length c), (1, .slice B m.length d)]) Tryz.func13 rfl rfl rfl ⟨rfl, rfl, trivial⟩ fun a w hK hM => ?_
 refine wp_seq ?_
 refine rg1 (by kernel_rfl) ?_
 refine sP hK 4 (.bool false) (by kernel_rfl) (by kernel_rfl) fun a hK => ?_
 refine rps ?_
 refine wp_seq ?_
 refine wp_seq ?_
 refine rg5 (by kernel_rfl) ?_
 refine sM hK 6 0 (by kernel_rfl) (.inl rfl) rfl fun a hK => ?_
 refine sP hK 7 (.int .i64 ((l.length : Nat) : Int)) (by kernel_rfl) (by kernel_rfl) fun a hK => ?_
 refine sM hK 8 1 (by kernel_rfl) (.inl rfl) rfl fun a hK => ?_
 refine sP hK 9 (.int .i64 ((m.length : Nat) : Int)) (by kernel_rfl) (by kernel_rfl) fun a hK => ?_
 rcases Bool.eq_false_or_eq_true (!(decide ((((l.length : Nat) : Int) : Int) = ((m.length : Nat) : Int)))) with h1 | h1
 ·refine sP hK 10 (.bool true) (by kernel_rfl) (oB (b := (!(decide ((((l.length : Nat) : Int) : Int) = ((m.length : Nat) : Int))))) (by kernel_rfl) h1) fun a hK => ?_
  refine rps ?_
  refine wp_cond_true (hK.get rfl) ?_
  refine wp_seq ?_
  refine rg1 (by kernel_rfl) ?_
  refine sP hK 4 (.bool false) (by kernel_rfl) (by kernel_rfl) fun a hK => ?_
  refine rps ?_
  refine wp_ret ?_
  exact ret_t hK rfl (u := (.bool false)) rfl (⟨by rw [decide_eq_false (fun e => by subst e; have h9 := h1; simp at h9)], hM.below⟩)
 ·refine sP hK 10 (.bool false) (by kernel_rfl) (oB (b := (!(decide ((((l.length : Nat) : Int) : Int) = ((m.length : Nat) : Int))))) (by kernel_rfl) h1) fun a hK => ?_
  refine rps ?_
  refine wp_cond_false (hK.get rfl) ?_
  refine wp_skip ?_
  refine wp_seq ?_
  refine wp_seq ?_
  have hlen : l.length = m.length := by have q := h1; simp at q; omega
  refine rg1 (by kernel_rfl) ?_
  refine sP hK 5 (.int .i64 0) (by kernel_rfl) (by kernel_rfl) fun a hK => ?_
  refine rps ?_
  refine wp_block ?_
  refine wLX (fun x : Nat => [(10, .bool false), (4, .bool false), (0, .slice A l.length c), (1, .slice B m.length d), (5, vN x)]) (fun x : Nat => []) (fun x : Nat => x ≤ l.length ∧ ∀ j, j < x → l[j]? = m[j]?) (fun x : Nat => l.length - x) 0 (hK.sub ⟨rfl, rfl, rfl, rfl, rfl, trivial⟩) hM ⟨Nat.zero_le _, fun j hj => by omega⟩ ?_
  rintro i a w hK hM hR
  replace hK : Knows a 26 [(10, .bool false), (4, .bool false), (0, .slice A l.length c), (1, .slice B m.length d), (5, vN i)] := hK
  replace hM : Mem w0 w [] := hM
  replace hR : i ≤ l.length ∧ ∀ j, j < i → l[j]? = m[j]? := hR
  refine wp_seq ?_
  refine wp_seq ?_
  refine rg4 (by kernel_rfl) ?_
  refine sM hK 11 5 (by kernel_rfl) (.inl rfl) rfl fun a hK => ?_
  refine sM hK 12 0 (by kernel_rfl) (.inl rfl) rfl fun a hK => ?_
  refine sP hK 13 (.int .i64 ((l.length : Nat) : Int)) (by kernel_rfl) (by kernel_rfl) fun a hK => ?_
  by_cases h2 : (((i : Nat) : Int) : Int) < ((l.length : Nat) : Int)
  ·refine sP hK 14 (.bool true) (by kernel_rfl) (oB (b := (decide ((((i : Nat) : Int) : Int) < ((l.length : Nat) : Int)))) (by kernel_rfl) (decide_eq_true h2)) fun a hK => ?_
   refine rps ?_
   refine wp_cond_true (hK.get rfl) ?_
   refine wp_skip ?_
   refine wp_seq ?_
   refine wp_block ?_
   refine wp_seq ?_
   obtain ⟨t3, ht3⟩ : ∃ t, l[(i : Nat)]? = some t := ⟨_, List.getElem?_eq_getElem (by omega)⟩
   obtain ⟨at3, At3, ct3⟩ := hl _ _ ht3
   obtain ⟨t4, ht4⟩ : ∃ t, m[(i : Nat)]? = some t := ⟨_, List.getElem?_eq_getElem (by omega)⟩
   obtain ⟨at4, At4, ct4⟩ := hm _ _ ht4
   rcases Bool.eq_false_or_eq_true (!(decide (t3 = t4))) with h5 | h5
   ·refine rAn (F := fun w => Mem w0 w []) hK [some (.slice A l.length c), some (vN i), some (.pointer (some (at3.add (i * 1)))), some (Str t3), some (.slice B m.length d), some (vN i), some (.pointer (some (at4.add (i * 1)))), some (Str t4), some (.bool true)] 9 (fun _ _ hb hm => hm.go hb) hM (by kernel_rfl) (by kernel_rfl) ⟨⟨⟨⟨⟨⟨⟨⟨⟨trivial, ?_⟩, ?_⟩, ?_⟩, ?_⟩, ?_⟩, ?_⟩, ?_⟩, ?_⟩, ?_⟩ [(25, .bool true), (14, .bool true), (10, .bool false), (4, .bool false), (0, .slice A l.length c), (1, .slice B m.length d), (5, vN i)] (by kernel_rfl) fun a w hK hM => ?_
    ·exact .val (.slice A l.length c) rfl (by kernel_rfl) (fun w hM => (by kernel_rfl))
    ·exact .val (vN i) rfl (by kernel_rfl) (fun w hM => (by kernel_rfl))
    ·exact .val (.pointer (some (at3.add (i * 1)))) rfl (by kernel_rfl) (fun w hM => (rX (k := i) (s := 1) rfl rfl At3 rfl Tryz.underlying36 (by kernel_rfl) (by omega)))
    ·exact .val (Str t3) rfl (by kernel_rfl) (fun w hM => rL rfl rfl ((ct3.on hM.below)) (by kernel_rfl))
    ·exact .val (.slice B m.length d) rfl (by kernel_rfl) (fun w hM => (by kernel_rfl))
    ·exact .val (vN i) rfl (by kernel_rfl) (fun w hM => (by kernel_rfl))
    ·exact .val (.pointer (some (at4.add (i * 1)))) rfl (by kernel_rfl) (fun w hM => (rX (k := i) (s := 1) rfl rfl At4 rfl Tryz.underlying36 (by kernel_rfl) (by omega)))
    ·exact .val (Str t4) rfl (by kernel_rfl) (fun w hM => rL rfl rfl ((ct4.on hM.below)) (by kernel_rfl))
    ·exact .val (.bool true) rfl (by kernel_rfl) (fun w hM => (oB (b := (!(decide (t3 = t4)))) (run_neS rfl rfl rfl) h5))
    refine wp_cond_true (hK.get rfl) ?_
    refine wp_seq ?_
    refine rg1 (by kernel_rfl) ?_
    refine sP hK 4 (.bool false) (by kernel_rfl) (by kernel_rfl) fun a hK => ?_
    refine rps ?_
    refine wp_ret ?_
    exact ret_t hK rfl (u := (.bool false)) rfl (⟨by rw [decide_eq_false (fun e => by subst e; rw [ht3] at ht4; obtain rfl := Option.some.inj ht4; have h9 := h5; simp at h9)], hM.below⟩)
   ·refine rAn (F := fun w => Mem w0 w []) hK [some (.slice A l.length c), some (vN i), some (.pointer (some (at3.add (i * 1)))), some (Str t3), some (.slice B m.length d), some (vN i), some (.pointer (some (at4.add (i * 1)))), some (Str t4), some (.bool false)] 9 (fun _ _ hb hm => hm.go hb) hM (by kernel_rfl) (by kernel_rfl) ⟨⟨⟨⟨⟨⟨⟨⟨⟨trivial, ?_⟩, ?_⟩, ?_⟩, ?_⟩, ?_⟩, ?_⟩, ?_⟩, ?_⟩, ?_⟩ [(25, .bool false), (14, .bool true), (10, .bool false), (4, .bool false), (0, .slice A l.length c), (1, .slice B m.length d), (5, vN i)] (by kernel_rfl) fun a w hK hM => ?_
    ·exact .val (.slice A l.length c) rfl (by kernel_rfl) (fun w hM => (by kernel_rfl))
    ·exact .val (vN i) rfl (by kernel_rfl) (fun w hM => (by kernel_rfl))
    ·exact .val (.pointer (some (at3.add (i * 1)))) rfl (by kernel_rfl) (fun w hM => (rX (k := i) (s := 1) rfl rfl At3 rfl Tryz.underlying36 (by kernel_rfl) (by omega)))
    ·exact .val (Str t3) rfl (by kernel_rfl) (fun w hM => rL rfl rfl ((ct3.on hM.below)) (by kernel_rfl))
    ·exact .val (.slice B m.length d) rfl (by kernel_rfl) (fun w hM => (by kernel_rfl))
    ·exact .val (vN i) rfl (by kernel_rfl) (fun w hM => (by kernel_rfl))
    ·exact .val (.pointer (some (at4.add (i * 1)))) rfl (by kernel_rfl) (fun w hM => (rX (k := i) (s := 1) rfl rfl At4 rfl Tryz.underlying36 (by kernel_rfl) (by omega)))
    ·exact .val (Str t4) rfl (by kernel_rfl) (fun w hM => rL rfl rfl ((ct4.on hM.below)) (by kernel_rfl))
    ·exact .val (.bool false) rfl (by kernel_rfl) (fun w hM => (oB (b := (!(decide (t3 = t4)))) (run_neS rfl rfl rfl) h5))
    refine wp_cond_false (hK.get rfl) ?_
    refine wp_skip ?_
    refine rg3 (by kernel_rfl) ?_
    refine sM hK 15 5 (by kernel_rfl) (.inl rfl) rfl fun a hK => ?_
    refine sP hK 16 (.int .i64 (((i + 1) : Nat) : Int)) (by kernel_rfl) (run_addN (i := i) (j := 1) rfl rfl rfl (by omega)) fun a hK => ?_
    refine sM hK 5 16 (by kernel_rfl) (.inr rfl) rfl fun a hK => ?_
    refine rps ?_
    have hRn : (i + 1) ≤ l.length ∧ ∀ j, j < (i + 1) → l[j]? = m[j]? := ⟨by omega, fun j hj => (Nat.lt_or_ge j i).elim (fun h8 => hR.2 j h8) (fun h8 => by obtain rfl : j = i := (by omega); rw [ht3, ht4]; have h9 := h5; simpa using h9)⟩
    have hmn : l.length - (i + 1) < l.length - i := by omega
    exact ⟨i + 1, hK.sub ⟨rfl, rfl, rfl, rfl, rfl, trivial⟩, hM, hRn, hmn⟩
  ·refine sP hK 14 (.bool false) (by kernel_rfl) (oB (b := (decide ((((i : Nat) : Int) : Int) < ((l.length : Nat) : Int)))) (by kernel_rfl) (decide_eq_false h2)) fun a hK => ?_
   refine rps ?_
   refine wp_cond_false (hK.get rfl) ?_
   refine wp_exit (exit_then (exit_then (exit_here 0 ?_)))
   refine wp_seq ?_
   refine rg1 (by kernel_rfl) ?_
   refine sP hK 4 (.bool true) (by kernel_rfl) (by kernel_rfl) fun a hK => ?_
   refine rps ?_
   refine wp_ret ?_
   exact ret_t hK rfl (u := (.bool true)) rfl (⟨by rw [decide_eq_true (list_same hlen fun j hj => hR.2 j (by omega))], hM.below⟩)
set_option maxRecDepth 100000 in
set_option maxHeartbeats 4000000 in
theorem kit_Ints {A B : Option Addr} {c d : Nat} (l m : List Int) (w0 : World) (hl : HandAt w0 A (fun x => [.int .i64 x]) 1 l) (hm : HandAt w0 B (fun x => [.int .i64 x]) 1 m) (hbl : l.length ≤ 1000000) (hbm : m.length ≤ 1000000) : Calls Tryz.prog 16 #[.slice A l.length c, .slice B m.length d] w0 (Ret w0 (.bool (decide (l = m)))) := by
 refine calls_K (args := [.slice A l.length c, .slice B m.length d]) (n := 26) (env := [(0, .slice A l.length c), (1, .slice B m.length d)]) Tryz.func16 rfl rfl rfl ⟨rfl, rfl, trivial⟩ fun a w hK hM => ?_
 refine wp_seq ?_
 refine rg1 (by kernel_rfl) ?_
 refine sP hK 4 (.bool false) (by kernel_rfl) (by kernel_rfl) fun a hK => ?_
 refine rps ?_
 refine wp_seq ?_
 refine wp_seq ?_
 refine rg5 (by kernel_rfl) ?_
 refine sM hK 6 0 (by kernel_rfl) (.inl rfl) rfl fun a hK => ?_
 refine sP hK 7 (.int .i64 ((l.length : Nat) : Int)) (by kernel_rfl) (by kernel_rfl) fun a hK => ?_
 refine sM hK 8 1 (by kernel_rfl) (.inl rfl) rfl fun a hK => ?_
 refine sP hK 9 (.int .i64 ((m.length : Nat) : Int)) (by kernel_rfl) (by kernel_rfl) fun a hK => ?_
 rcases Bool.eq_false_or_eq_true (!(decide ((((l.length : Nat) : Int) : Int) = ((m.length : Nat) : Int)))) with h1 | h1
 ·refine sP hK 10 (.bool true) (by kernel_rfl) (oB (b := (!(decide ((((l.length : Nat) : Int) : Int) = ((m.length : Nat) : Int))))) (by kernel_rfl) h1) fun a hK => ?_
  refine rps ?_
  refine wp_cond_true (hK.get rfl) ?_
  refine wp_seq ?_
  refine rg1 (by kernel_rfl) ?_
  refine sP hK 4 (.bool false) (by kernel_rfl) (by kernel_rfl) fun a hK => ?_
  refine rps ?_
  refine wp_ret ?_
  exact ret_t hK rfl (u := (.bool false)) rfl (⟨by rw [decide_eq_false (fun e => by subst e; have h9 := h1; simp at h9)], hM.below⟩)
 ·refine sP hK 10 (.bool false) (by kernel_rfl) (oB (b := (!(decide ((((l.length : Nat) : Int) : Int) = ((m.length : Nat) : Int))))) (by kernel_rfl) h1) fun a hK => ?_
  refine rps ?_
  refine wp_cond_false (hK.get rfl) ?_
  refine wp_skip ?_
  refine wp_seq ?_
  refine wp_seq ?_
  have hlen : l.length = m.length := by have q := h1; simp at q; omega
  refine rg1 (by kernel_rfl) ?_
  refine sP hK 5 (.int .i64 0) (by kernel_rfl) (by kernel_rfl) fun a hK => ?_
  refine rps ?_
  refine wp_block ?_
  refine wLX (fun x : Nat => [(10, .bool false), (4, .bool false), (0, .slice A l.length c), (1, .slice B m.length d), (5, vN x)]) (fun x : Nat => []) (fun x : Nat => x ≤ l.length ∧ ∀ j, j < x → l[j]? = m[j]?) (fun x : Nat => l.length - x) 0 (hK.sub ⟨rfl, rfl, rfl, rfl, rfl, trivial⟩) hM ⟨Nat.zero_le _, fun j hj => by omega⟩ ?_
  rintro i a w hK hM hR
  replace hK : Knows a 26 [(10, .bool false), (4, .bool false), (0, .slice A l.length c), (1, .slice B m.length d), (5, vN i)] := hK
  replace hM : Mem w0 w [] := hM
  replace hR : i ≤ l.length ∧ ∀ j, j < i → l[j]? = m[j]? := hR
  refine wp_seq ?_
  refine wp_seq ?_
  refine rg4 (by kernel_rfl) ?_
  refine sM hK 11 5 (by kernel_rfl) (.inl rfl) rfl fun a hK => ?_
  refine sM hK 12 0 (by kernel_rfl) (.inl rfl) rfl fun a hK => ?_
  refine sP hK 13 (.int .i64 ((l.length : Nat) : Int)) (by kernel_rfl) (by kernel_rfl) fun a hK => ?_
  by_cases h2 : (((i : Nat) : Int) : Int) < ((l.length : Nat) : Int)
  ·refine sP hK 14 (.bool true) (by kernel_rfl) (oB (b := (decide ((((i : Nat) : Int) : Int) < ((l.length : Nat) : Int)))) (by kernel_rfl) (decide_eq_true h2)) fun a hK => ?_
   refine rps ?_
   refine wp_cond_true (hK.get rfl) ?_
   refine wp_skip ?_
   refine wp_seq ?_
   refine wp_block ?_
   refine wp_seq ?_
   obtain ⟨t3, ht3⟩ : ∃ t, l[(i : Nat)]? = some t := ⟨_, List.getElem?_eq_getElem (by omega)⟩
   obtain ⟨at3, At3, ct3⟩ := hl _ _ ht3
   obtain ⟨t4, ht4⟩ : ∃ t, m[(i : Nat)]? = some t := ⟨_, List.getElem?_eq_getElem (by omega)⟩
   obtain ⟨at4, At4, ct4⟩ := hm _ _ ht4
   rcases Bool.eq_false_or_eq_true (!(decide ((t3 : Int) = t4))) with h5 | h5
   ·refine rAn (F := fun w => Mem w0 w []) hK [some (.slice A l.length c), some (vN i), some (.pointer (some (at3.add (i * 1)))), some (.int .i64 t3), some (.slice B m.length d), some (vN i), some (.pointer (some (at4.add (i * 1)))), some (.int .i64 t4), some (.bool true)] 9 (fun _ _ hb hm => hm.go hb) hM (by kernel_rfl) (by kernel_rfl) ⟨⟨⟨⟨⟨⟨⟨⟨⟨trivial, ?_⟩, ?_⟩, ?_⟩, ?_⟩, ?_⟩, ?_⟩, ?_⟩, ?_⟩, ?_⟩ [(25, .bool true), (14, .bool true), (10, .bool false), (4, .bool false), (0, .slice A l.length c), (1, .slice B m.length d), (5, vN i)] (by kernel_rfl) fun a w hK hM => ?_
    ·exact .val (.slice A l.length c) rfl (by kernel_rfl) (fun w hM => (by kernel_rfl))
    ·exact .val (vN i) rfl (by kernel_rfl) (fun w hM => (by kernel_rfl))
    ·exact .val (.pointer (some (at3.add (i * 1)))) rfl (by kernel_rfl) (fun w hM => (rX (k := i) (s := 1) rfl rfl At3 rfl Tryz.underlying40 (by kernel_rfl) (by omega)))
    ·exact .val (.int .i64 t3) rfl (by kernel_rfl) (fun w hM => rL rfl rfl ((ct3.on hM.below)) (by kernel_rfl))
    ·exact .val (.slice B m.length d) rfl (by kernel_rfl) (fun w hM => (by kernel_rfl))
    ·exact .val (vN i) rfl (by kernel_rfl) (fun w hM => (by kernel_rfl))
    ·exact .val (.pointer (some (at4.add (i * 1)))) rfl (by kernel_rfl) (fun w hM => (rX (k := i) (s := 1) rfl rfl At4 rfl Tryz.underlying40 (by kernel_rfl) (by omega)))
    ·exact .val (.int .i64 t4) rfl (by kernel_rfl) (fun w hM => rL rfl rfl ((ct4.on hM.below)) (by kernel_rfl))
    ·exact .val (.bool true) rfl (by kernel_rfl) (fun w hM => (oB (b := (!(decide ((t3 : Int) = t4)))) (by kernel_rfl) h5))
    refine wp_cond_true (hK.get rfl) ?_
    refine wp_seq ?_
    refine rg1 (by kernel_rfl) ?_
    refine sP hK 4 (.bool false) (by kernel_rfl) (by kernel_rfl) fun a hK => ?_
    refine rps ?_
    refine wp_ret ?_
    exact ret_t hK rfl (u := (.bool false)) rfl (⟨by rw [decide_eq_false (fun e => by subst e; rw [ht3] at ht4; obtain rfl := Option.some.inj ht4; have h9 := h5; simp at h9)], hM.below⟩)
   ·refine rAn (F := fun w => Mem w0 w []) hK [some (.slice A l.length c), some (vN i), some (.pointer (some (at3.add (i * 1)))), some (.int .i64 t3), some (.slice B m.length d), some (vN i), some (.pointer (some (at4.add (i * 1)))), some (.int .i64 t4), some (.bool false)] 9 (fun _ _ hb hm => hm.go hb) hM (by kernel_rfl) (by kernel_rfl) ⟨⟨⟨⟨⟨⟨⟨⟨⟨trivial, ?_⟩, ?_⟩, ?_⟩, ?_⟩, ?_⟩, ?_⟩, ?_⟩, ?_⟩, ?_⟩ [(25, .bool false), (14, .bool true), (10, .bool false), (4, .bool false), (0, .slice A l.length c), (1, .slice B m.length d), (5, vN i)] (by kernel_rfl) fun a w hK hM => ?_
    ·exact .val (.slice A l.length c) rfl (by kernel_rfl) (fun w hM => (by kernel_rfl))
    ·exact .val (vN i) rfl (by kernel_rfl) (fun w hM => (by kernel_rfl))
    ·exact .val (.pointer (some (at3.add (i * 1)))) rfl (by kernel_rfl) (fun w hM => (rX (k := i) (s := 1) rfl rfl At3 rfl Tryz.underlying40 (by kernel_rfl) (by omega)))
    ·exact .val (.int .i64 t3) rfl (by kernel_rfl) (fun w hM => rL rfl rfl ((ct3.on hM.below)) (by kernel_rfl))
    ·exact .val (.slice B m.length d) rfl (by kernel_rfl) (fun w hM => (by kernel_rfl))
    ·exact .val (vN i) rfl (by kernel_rfl) (fun w hM => (by kernel_rfl))
    ·exact .val (.pointer (some (at4.add (i * 1)))) rfl (by kernel_rfl) (fun w hM => (rX (k := i) (s := 1) rfl rfl At4 rfl Tryz.underlying40 (by kernel_rfl) (by omega)))
    ·exact .val (.int .i64 t4) rfl (by kernel_rfl) (fun w hM => rL rfl rfl ((ct4.on hM.below)) (by kernel_rfl))
    ·exact .val (.bool false) rfl (by kernel_rfl) (fun w hM => (oB (b := (!(decide ((t3 : Int) = t4)))) (by kernel_rfl) h5))
    refine wp_cond_false (hK.get rfl) ?_
    refine wp_skip ?_
    refine rg3 (by kernel_rfl) ?_
    refine sM hK 15 5 (by kernel_rfl) (.inl rfl) rfl fun a hK => ?_
    refine sP hK 16 (.int .i64 (((i + 1) : Nat) : Int)) (by kernel_rfl) (run_addN (i := i) (j := 1) rfl rfl rfl (by omega)) fun a hK => ?_
    refine sM hK 5 16 (by kernel_rfl) (.inr rfl) rfl fun a hK => ?_
    refine rps ?_
    have hRn : (i + 1) ≤ l.length ∧ ∀ j, j < (i + 1) → l[j]? = m[j]? := ⟨by omega, fun j hj => (Nat.lt_or_ge j i).elim (fun h8 => hR.2 j h8) (fun h8 => by obtain rfl : j = i := (by omega); rw [ht3, ht4]; have h9 := h5; simpa using h9)⟩
    have hmn : l.length - (i + 1) < l.length - i := by omega
    exact ⟨i + 1, hK.sub ⟨rfl, rfl, rfl, rfl, rfl, trivial⟩, hM, hRn, hmn⟩
  ·refine sP hK 14 (.bool false) (by kernel_rfl) (oB (b := (decide ((((i : Nat) : Int) : Int) < ((l.length : Nat) : Int)))) (by kernel_rfl) (decide_eq_false h2)) fun a hK => ?_
   refine rps ?_
   refine wp_cond_false (hK.get rfl) ?_
   refine wp_exit (exit_then (exit_then (exit_here 0 ?_)))
   refine wp_seq ?_
   refine rg1 (by kernel_rfl) ?_
   refine sP hK 4 (.bool true) (by kernel_rfl) (by kernel_rfl) fun a hK => ?_
   refine rps ?_
   refine wp_ret ?_
   exact ret_t hK rfl (u := (.bool true)) rfl (⟨by rw [decide_eq_true (list_same hlen fun j hj => hR.2 j (by omega))], hM.below⟩)
theorem lib_Clone0 (l : List UInt8) (w0 : World) (h : l.length ≤ 281474976710656) : Calls Tryz.prog 69 #[Str l] w0 (Ret w0 (Str l)) := Tryz.stringslite_Clone ⟨l.toArray⟩ w0 h
theorem en_stringslite_Clone : Enters Tryz.prog 69 := enters_of Tryz.func69 (by kernel_rfl) rfl
set_option maxRecDepth 100000 in
set_option maxHeartbeats 4000000 in
theorem lib_Clone (l : List UInt8) (w0 : World) (hln : l.length ≤ 65536) : Calls Tryz.prog 42 #[Str l] w0 (Ret w0 (Str l)) := by
 refine calls_K (args := [Str l]) (n := 5) (env := [(0, Str l)]) Tryz.func42 rfl rfl rfl ⟨rfl, trivial⟩ fun a w hK hM => ?_
 refine wp_seq ?_
 refine rg1 (by kernel_rfl) ?_
 refine sP hK 2 (Str []) (by kernel_rfl) (by kernel_rfl) fun a hK => ?_
 refine rps ?_
 refine wp_seq ?_
 refine rg3 (by kernel_rfl) ?_
 refine sM hK 3 0 (by kernel_rfl) (.inl rfl) rfl fun a hK => ?_
 refine sR hK hM 4 #[Str l] (Str l) (by kernel_rfl) (rC en_stringslite_Clone rfl rfl (by kernel_rfl)) (lib_Clone0 l _ (by omega)) fun a w hK hM => ?_
 refine sM hK 2 4 (by kernel_rfl) (.inr rfl) rfl fun a hK => ?_
 refine rps ?_
 refine wp_ret ?_
 exact ret_t hK rfl (u := (Str l)) rfl (⟨rfl, hM.below⟩)
theorem Mem.start_own {w0 w : World} (hb : Below w0.heap.size w0 w) {l : List (List UInt8)} (hl : l = []) : Mem w0 w [.own 9 1 (.slice none 0 0) l.length (l.map Str)] := by
 subst hl
 exact ⟨hb, fun it hi => by obtain rfl := List.mem_singleton.1 hi; exact ⟨rfl, .inl ⟨rfl, rfl⟩⟩, List.pairwise_singleton _ _⟩
set_option maxRecDepth 100000 in
set_option maxHeartbeats 4000000 in
theorem ast_eachS {A : Option Addr} {c : Nat} (l : List (List UInt8)) (w0 : World) (hl : HandAt w0 A (fun x => [Str x]) 1 l) (hbl : l.length ≤ 1000000) (hs : ∀ x ∈ l, x.length ≤ 65536) (hnil : A = none → l = []) : Calls Tryz.prog 39 #[.slice A l.length c, .func (.func 42) #[] #[]] w0 (Gives w0 (fun v : Value => v) (fun v => [.own 9 1 v l.length (l.map Str)]) fun _ => True) := by
 refine calls_K (args := [.slice A l.length c, .func (.func 42) #[] #[]]) (n := 28) (env := [(0, .slice A l.length c), (1, .func (.func 42) #[] #[])]) Tryz.func39 rfl rfl rfl ⟨rfl, rfl, trivial⟩ fun a w hK hM => ?_
 refine wp_seq ?_
 refine rg1 (by kernel_rfl) ?_
 refine sP hK 4 (.slice none 0 0) (by kernel_rfl) (by kernel_rfl) fun a hK => ?_
 refine rps ?_
 refine wp_seq ?_
 refine wp_seq ?_
 refine rg2 (by kernel_rfl) ?_
 refine sM hK 8 0 (by kernel_rfl) (.inl rfl) rfl fun a hK => ?_
 rcases Bool.eq_false_or_eq_true (A).isNone with h1 | h1
 ·refine sP hK 9 (.bool true) (by kernel_rfl) (oB (b := (A).isNone) (run_eqNil rfl rfl rfl Tryz.underlying36) h1) fun a hK => ?_
  refine rps ?_
  refine wp_cond_true (hK.get rfl) ?_
  refine wp_seq ?_
  refine rg1 (by kernel_rfl) ?_
  refine sP hK 4 (.slice none 0 0) (by kernel_rfl) (by kernel_rfl) fun a hK => ?_
  refine rps ?_
  refine wp_ret ?_
  exact ret_t hK rfl (u := (.slice none 0 0)) rfl (⟨.slice none 0 0, rfl, Mem.start_own hM.below (hnil (by simpa using h1)), trivial⟩)
 ·refine sP hK 9 (.bool false) (by kernel_rfl) (oB (b := (A).isNone) (run_eqNil rfl rfl rfl Tryz.underlying36) h1) fun a hK => ?_
  refine rps ?_
  refine wp_cond_false (hK.get rfl) ?_
  refine wp_skip ?_
  refine wp_seq ?_
  refine rg4 (by kernel_rfl) ?_
  refine sM hK 10 0 (by kernel_rfl) (.inl rfl) rfl fun a hK => ?_
  refine sP hK 11 (.int .i64 ((l.length : Nat) : Int)) (by kernel_rfl) (by kernel_rfl) fun a hK => ?_
  refine stepMake hK hM 12 [Str []] l.length 16 Tryz.underlying36 (by kernel_rfl) (by kernel_rfl) rfl rfl rfl (by omega) fun b2 a w hK hM => ?_
  refine sM hK 5 12 (by kernel_rfl) (.inr rfl) rfl fun a hK => ?_
  refine rps ?_
  refine wp_seq ?_
  refine wp_seq ?_
  refine rg3 (by kernel_rfl) ?_
  refine sM hK 13 0 (by kernel_rfl) (.inl rfl) rfl fun a hK => ?_
  refine sP hK 14 (.int .i64 ((l.length : Nat) : Int)) (by kernel_rfl) (by kernel_rfl) fun a hK => ?_
  refine sP hK 15 (.int .i64 0) (by kernel_rfl) (by kernel_rfl) fun a hK => ?_
  refine rps ?_
  refine wp_block ?_
  refine wLX (fun x : Nat => [(14, .int .i64 ((l.length : Nat) : Int)), (13, .slice A l.length c), (5, .slice (some ⟨b2, 0, none⟩) l.length l.length), (9, .bool false), (4, .slice none 0 0), (0, .slice A l.length c), (1, .func (.func 42) #[] #[]), (15, vN x)]) (fun x : Nat => [.row b2 9 ((l.take x).map Str ++ zerosL (l.length - x) [Str []])]) (fun x : Nat => x ≤ l.length) (fun x : Nat => l.length - x) 0 (hK.sub ⟨rfl, rfl, rfl, rfl, rfl, rfl, rfl, rfl, trivial⟩) hM (Nat.zero_le _) ?_
  rintro i a w hK hM hR
  replace hK : Knows a 28 [(14, .int .i64 ((l.length : Nat) : Int)), (13, .slice A l.length c), (5, .slice (some ⟨b2, 0, none⟩) l.length l.length), (9, .bool false), (4, .slice none 0 0), (0, .slice A l.length c), (1, .func (.func 42) #[] #[]), (15, vN i)] := hK
  replace hM : Mem w0 w [.row b2 9 ((l.take i).map Str ++ zerosL (l.length - i) [Str []])] := hM
  replace hR : i ≤ l.length := hR
  refine wp_seq ?_
  refine rg1 (by kernel_rfl) ?_
  by_cases h3 : (((i : Nat) : Int) : Int) < ((l.length : Nat) : Int)
  ·refine sP hK 16 (.bool true) (by kernel_rfl) (oB (b := (decide ((((i : Nat) : Int) : Int) < ((l.length : Nat) : Int)))) (by kernel_rfl) (decide_eq_true h3)) fun a hK => ?_
   refine rps ?_
   refine wp_seq ?_
   refine wp_cond_true (hK.get rfl) ?_
   refine wp_skip ?_
   refine wp_seq ?_
   refine wp_block ?_
   refine wp_seq ?_
   refine rg5 (by kernel_rfl) ?_
   refine sM hK 17 15 (by kernel_rfl) (.inl rfl) rfl fun a hK => ?_
   obtain ⟨t4, ht4⟩ : ∃ t, l[(i : Nat)]? = some t := ⟨_, List.getElem?_eq_getElem (by omega)⟩
   obtain ⟨at4, At4, ct4⟩ := hl _ _ ht4
   refine sP hK 18 (.pointer (some (at4.add (i * 1)))) (by kernel_rfl) (rX (k := i) (s := 1) rfl rfl At4 rfl Tryz.underlying36 (by kernel_rfl) (by omega)) fun a hK => ?_
   refine sL hK 19 (Str t4) (by kernel_rfl) rfl rfl ((ct4.on hM.below)) (by kernel_rfl) fun a hK => ?_
   refine sM hK 6 17 (by kernel_rfl) (.inr rfl) rfl fun a hK => ?_
   refine sM hK 7 19 (by kernel_rfl) (.inr rfl) rfl fun a hK => ?_
   refine rps ?_
   refine rg7 (by kernel_rfl) ?_
   refine sM hK 20 5 (by kernel_rfl) (.inl rfl) rfl fun a hK => ?_
   refine sM hK 21 6 (by kernel_rfl) (.inl rfl) rfl fun a hK => ?_
   refine sM hK 22 1 (by kernel_rfl) (.inl rfl) rfl fun a hK => ?_
   refine sM hK 23 7 (by kernel_rfl) (.inl rfl) rfl fun a hK => ?_
   refine sR hK hM 24 #[Str t4] (Str t4) (by kernel_rfl) (rC en_strings_Clone rfl rfl (by kernel_rfl)) (lib_Clone t4 _ (hs _ (List.mem_of_getElem? ht4))) fun a w hK hM => ?_
   refine sP hK 25 (.pointer (some ⟨b2, i * 1, none⟩)) (by kernel_rfl) (run_ixG (k := i) (s := 1) rfl rfl rfl Tryz.underlying36 (by kernel_rfl) (by omega)) fun a hK => ?_
   refine stepStoreAt hK hM 0 [Str t4] (((l.take (i + 1)).map Str ++ zerosL (l.length - (i + 1)) [Str []])) (by kernel_rfl) rfl rfl rfl rfl (by kernel_rfl) rfl rfl (by rw [List.length_append, List.length_map, List.length_take, zerosL_length]; simp only [List.length_cons, List.length_nil]; omega) ((put_next (A := (l.take i).map Str) (new := [Str t4]) (zs := [Str []]) (m := l.length - i) (k := i * 1) (by simp; omega) rfl (by omega)).trans (by rw [List.take_add_one, ht4]; simp [Nat.sub_sub])) fun w hM => ?_
   replace hM := hM.to ([.row b2 9 (((l.take (i + 1)).map Str ++ zerosL (l.length - (i + 1)) [Str []]))]) (by kernel_rfl)
   refine rps ?_
   refine rg2 (by kernel_rfl) ?_
   refine sP hK 26 (.int .i64 (((i + 1) : Nat) : Int)) (by kernel_rfl) (run_addN (i := i) (j := 1) rfl rfl rfl (by omega)) fun a hK => ?_
   refine sM hK 15 26 (by kernel_rfl) (.inl rfl) rfl fun a hK => ?_
   refine rps ?_
   have hRn : (i + 1) ≤ l.length := by omega
   have hmn : l.length - (i + 1) < l.length - i := by omega
   exact ⟨i + 1, hK.sub ⟨rfl, rfl, rfl, rfl, rfl, rfl, rfl, rfl, trivial⟩, hM, hRn, hmn⟩
  ·refine sP hK 16 (.bool false) (by kernel_rfl) (oB (b := (decide ((((i : Nat) : Int) : Int) < ((l.length : Nat) : Int)))) (by kernel_rfl) (decide_eq_false h3)) fun a hK => ?_
   refine rps ?_
   refine wp_seq ?_
   refine wp_cond_false (hK.get rfl) ?_
   refine wp_exit (exit_then (exit_then (exit_here 0 ?_)))
   refine wp_seq ?_
   refine rg2 (by kernel_rfl) ?_
   refine sM hK 27 5 (by kernel_rfl) (.inl rfl) rfl fun a hK => ?_
   refine sM hK 4 27 (by kernel_rfl) (.inr rfl) rfl fun a hK => ?_
   refine rps ?_
   refine wp_ret ?_
   exact ret_t hK rfl (u := (.slice (some ⟨b2, 0, none⟩) l.length l.length)) rfl (⟨.slice (some ⟨b2, 0, none⟩) l.length l.length, rfl, (hM.to [.row b2 9 (l.map Str)] (by rw [List.take_of_length_le (by omega), Nat.sub_eq_zero_of_le (by omega)]; simp [zerosL])).rowOwn (by simp) (by omega), trivial⟩)
end Go.Proofs.YtiigncmpbkfhmaaGreatDoor
namespace Go.Proofs.YtiigncmpbkfhmaaGreatDoor
open Go Go.RowKit
theorem en_ast_copyExpr : Enters Tryz.prog 80 := enters_of Tryz.func80 (by kernel_rfl) rfl
theorem en_each_Expr : Enters Tryz.prog 79 := enters_of Tryz.func79 (by kernel_rfl) rfl
def GivesE (w0 : World) (e : Ex) : Ending → World → Prop := Gives w0 (fun x : Ex × List It => (.agg #[.int .i64 x.1.op, .int .i64 x.1.num, Str x.1.nm, .slice x.1.A x.1.ks.length x.1.c] : Value)) (fun x => x.2) fun x => x.1.same e = true ∧ ExRows x.2 x.1
theorem Mem.comm {w0 w : World} {a b : List It} (h : Mem w0 w (a ++ b)) : Mem w0 w (b ++ a) where
 below := h.below
 each := fun it hi => h.each it (by simp only [List.mem_append] at hi ⊢; exact hi.symm)
 apart := by
  have h1 := List.pairwise_append.1 h.apart
  refine List.pairwise_append.2 ⟨h1.2.1, h1.1, fun x hx y hy => ?_⟩
  rcases h1.2.2 y hy x hx with q | q
  ·rcases hx0 : x.blk with _ | k
   ·exact .inl rfl
   ·exact .inr (by rw [q]; simp)
  ·exact .inr (Ne.symm q)
theorem flat_len {α : Type} {f : α → List Value} {s : Nat} (hf : ∀ x, (f x).length = s) (l : List α) : (l.flatMap f).length = l.length * s := by
 induction l with
 | nil => simp
 | cons x r ih => rw [List.flatMap_cons, List.length_append, hf, ih, List.length_cons, Nat.succ_mul]; omega
def samePts (done l : List Ex) : Prop := ∀ (k : Nat) (u v : Ex), done[k]? = some u → l[k]? = some v → u.same v = true
theorem samePts_all : ∀ {done l : List Ex}, samePts done l → exsSame done l = true := by
 intro done
 induction done with
 | nil => intro l _; cases l <;> rw [exsSame] <;> simp
 | cons x r ih =>
  intro l h
  cases l with
  | nil => rw [exsSame]; simp
  | cons y s => rw [exsSame, h 0 x y rfl rfl, ih (fun k u v hu hv => h (k + 1) u v (by simpa using hu) (by simpa using hv))]; rfl
theorem exs_none {w : World} {A : Option Addr} {l : List Ex} (h : ExsAt w A l) (hA : A.isNone = true) : l = [] := by
 cases l with
 | nil => rfl
 | cons x r => obtain ⟨⟨a, e, _⟩, _⟩ := h 0 x rfl; rw [e] at hA; simp at hA
theorem same_snoc {l done : List Ex} {i : Nat} {e q : Ex} (h : samePts done l) (hi : done.length = i) (hq : l[i]? = some q) (hs : e.same q = true) : samePts (done ++ [e]) l := by
 intro k x y hx hy
 rcases Nat.lt_or_ge k done.length with hk | hk
 ·rw [List.getElem?_append_left hk] at hx; exact h k x y hx hy
 ·rw [List.getElem?_append_right hk] at hx
  have hk2 : k = i := by
   have := (List.getElem?_eq_some_iff.1 hx).1
   simp at this; omega
  subst hk2
  rw [hi, Nat.sub_self] at hx
  obtain rfl : e = x := by simpa using hx
  rw [hq] at hy
  obtain rfl := Option.some.inj hy
  exact hs
set_option maxRecDepth 100000 in
set_option maxHeartbeats 4000000 in
theorem ast_eachE (l : List Ex) (ih : ∀ x ∈ l, ∀ w0 : World, ExAt w0 x → Calls Tryz.prog 80 #[vE x] w0 (GivesE w0 x)) : ∀ (A : Option Addr) (c : Nat) (w0 : World), ExsAt w0 A l → l.length ≤ 1000000 → Calls Tryz.prog 79 #[.slice A l.length c, .func (.func 80) #[] #[]] w0 (Gives w0 (fun x : List Ex × Option Addr × Nat × List It => (.slice x.2.1 x.1.length x.2.2.1 : Value)) (fun x => x.2.2.2) fun x => exsEq x.1 l = true ∧ RowIn x.2.2.2 28 x.2.1 (x.1.flatMap cE) ∧ ∀ y ∈ x.1, ExRows x.2.2.2 y) := by
 intro A c w0 hl hln
 refine calls_K (args := [.slice A l.length c, .func (.func 80) #[] #[]]) (n := 28) (env := [(0, .slice A l.length c), (1, .func (.func 80) #[] #[])]) Tryz.func79 rfl rfl rfl ⟨rfl, rfl, trivial⟩ fun a w hK hM => ?_
 refine wp_seq ?_
 refine rg1 (by kernel_rfl) ?_
 refine sP hK 4 (.slice none 0 0) (by kernel_rfl) (by kernel_rfl) fun a hK => ?_
 refine rps ?_
 refine wp_seq ?_
 refine wp_seq ?_
 refine rg2 (by kernel_rfl) ?_
 refine sM hK 8 0 (by kernel_rfl) (.inl rfl) rfl fun a hK => ?_
 rcases Bool.eq_false_or_eq_true (A).isNone with h1 | h1
 ·refine sP hK 9 (.bool true) (by kernel_rfl) (oB (b := (A).isNone) (run_eqNil rfl rfl rfl Tryz.underlying26) h1) fun a hK => ?_
  refine rps ?_
  refine wp_cond_true (hK.get rfl) ?_
  refine wp_seq ?_
  refine rg1 (by kernel_rfl) ?_
  refine sP hK 4 (.slice none 0 0) (by kernel_rfl) (by kernel_rfl) fun a hK => ?_
  refine rps ?_
  refine wp_ret ?_
  exact ret_t hK rfl (u := (.slice none 0 0)) rfl (⟨([], none, 0, []), rfl, hM, by rw [exs_none hl h1]; rfl, .inl rfl, fun y hy => by cases hy⟩)
 ·refine sP hK 9 (.bool false) (by kernel_rfl) (oB (b := (A).isNone) (run_eqNil rfl rfl rfl Tryz.underlying26) h1) fun a hK => ?_
  refine rps ?_
  refine wp_cond_false (hK.get rfl) ?_
  refine wp_skip ?_
  refine wp_seq ?_
  refine rg4 (by kernel_rfl) ?_
  refine sM hK 10 0 (by kernel_rfl) (.inl rfl) rfl fun a hK => ?_
  refine sP hK 11 (.int .i64 ((l.length : Nat) : Int)) (by kernel_rfl) (by kernel_rfl) fun a hK => ?_
  refine stepMake hK hM 12 [.int .i64 0, .int .i64 0, Str [], .slice none 0 0] l.length 56 Tryz.underlying26 (by kernel_rfl) (by kernel_rfl) rfl rfl rfl (by omega) fun b2 a w hK hM => ?_
  refine sM hK 5 12 (by kernel_rfl) (.inr rfl) rfl fun a hK => ?_
  refine rps ?_
  refine wp_seq ?_
  refine wp_seq ?_
  refine rg3 (by kernel_rfl) ?_
  refine sM hK 13 0 (by kernel_rfl) (.inl rfl) rfl fun a hK => ?_
  refine sP hK 14 (.int .i64 ((l.length : Nat) : Int)) (by kernel_rfl) (by kernel_rfl) fun a hK => ?_
  refine sP hK 15 (.int .i64 0) (by kernel_rfl) (by kernel_rfl) fun a hK => ?_
  refine rps ?_
  refine wp_block ?_
  refine wLX (fun x : Nat × (List Ex) × (List It) => [(14, .int .i64 ((l.length : Nat) : Int)), (13, .slice A l.length c), (5, .slice (some ⟨b2, 0, none⟩) l.length l.length), (9, .bool false), (4, .slice none 0 0), (0, .slice A l.length c), (1, .func (.func 80) #[] #[]), (15, .int .i64 ((x.1 : Nat) : Int))]) (fun x : Nat × (List Ex) × (List It) => (.row b2 28 (x.2.1.flatMap cE ++ zerosL (l.length - x.1) [.int .i64 0, .int .i64 0, Str [], .slice none 0 0]) :: x.2.2)) (fun x : Nat × (List Ex) × (List It) => x.1 ≤ l.length ∧ x.2.1.length = x.1 ∧ samePts x.2.1 l ∧ ∀ u ∈ x.2.1, ExRows x.2.2 u) (fun x : Nat × (List Ex) × (List It) => l.length - x.1) (0, [], []) (hK.sub ⟨rfl, rfl, rfl, rfl, rfl, rfl, rfl, rfl, trivial⟩) hM ⟨Nat.zero_le _, rfl, fun k x y hx => by simp at hx, fun x hx => by simp at hx⟩ ?_
  rintro ⟨i, done, F⟩ a w hK hM hR
  replace hK : Knows a 28 [(14, .int .i64 ((l.length : Nat) : Int)), (13, .slice A l.length c), (5, .slice (some ⟨b2, 0, none⟩) l.length l.length), (9, .bool false), (4, .slice none 0 0), (0, .slice A l.length c), (1, .func (.func 80) #[] #[]), (15, vN i)] := hK
  replace hM : Mem w0 w (.row b2 28 (done.flatMap cE ++ zerosL (l.length - i) [.int .i64 0, .int .i64 0, Str [], .slice none 0 0]) :: F) := hM
  replace hR : i ≤ l.length ∧ done.length = i ∧ samePts done l ∧ ∀ u ∈ done, ExRows F u := hR
  refine wp_seq ?_
  refine rg1 (by kernel_rfl) ?_
  by_cases h3 : (((i : Nat) : Int) : Int) < ((l.length : Nat) : Int)
  ·refine sP hK 16 (.bool true) (by kernel_rfl) (oB (b := (decide ((((i : Nat) : Int) : Int) < ((l.length : Nat) : Int)))) (by kernel_rfl) (decide_eq_true h3)) fun a hK => ?_
   refine rps ?_
   refine wp_seq ?_
   refine wp_cond_true (hK.get rfl) ?_
   refine wp_skip ?_
   refine wp_seq ?_
   refine wp_block ?_
   refine wp_seq ?_
   refine rg6 (by kernel_rfl) ?_
   refine sM hK 17 15 (by kernel_rfl) (.inl rfl) rfl fun a hK => ?_
   obtain ⟨t4, ht4⟩ : ∃ t, l[(i : Nat)]? = some t := ⟨_, List.getElem?_eq_getElem (by omega)⟩
   obtain ⟨⟨at4, At4, ct4⟩, et4⟩ := hl _ _ ht4; have nt4 := et4.len
   refine sP hK 18 (.pointer (some (at4.add (i * 4)))) (by kernel_rfl) (rX (k := i) (s := 4) rfl rfl At4 rfl Tryz.underlying26 (by kernel_rfl) (by omega)) fun a hK => ?_
   refine sL hK 19 (vE t4) (by kernel_rfl) rfl rfl ((ct4.on hM.below)) (by kernel_rfl) fun a hK => ?_
   refine sA hK hM 7 28 [.int .i64 0, .int .i64 0, Str [], .slice none 0 0] (fun b => pA b 0) (by kernel_rfl) (by kernel_rfl) fun b5 a w hK hM => ?_
   refine sM hK 6 17 (by kernel_rfl) (.inr rfl) rfl fun a hK => ?_
   refine sS hK hM 0 (cE t4) (by kernel_rfl) rfl rfl rfl rfl (by kernel_rfl) fun w hM => ?_
   replace hM := hM.to (.row b5 28 (cE t4) :: .row b2 28 (done.flatMap cE ++ zerosL (l.length - i) [.int .i64 0, .int .i64 0, Str [], .slice none 0 0]) :: F) (by kernel_rfl)
   refine rps ?_
   refine rg7 (by kernel_rfl) ?_
   refine sM hK 20 5 (by kernel_rfl) (.inl rfl) rfl fun a hK => ?_
   refine sM hK 21 6 (by kernel_rfl) (.inl rfl) rfl fun a hK => ?_
   refine sM hK 22 1 (by kernel_rfl) (.inl rfl) rfl fun a hK => ?_
   refine sL hK 23 (vE t4) (by kernel_rfl) rfl rfl ((hM.row 0 rfl).cells 0 4) (by kernel_rfl) fun a hK => ?_
   refine sC hK hM 24 #[vE t4] (by kernel_rfl) (rC en_ast_copyExpr rfl rfl (by kernel_rfl)) (ih t4 (List.mem_of_getElem? ht4) _ (et4.on hM.below)) ?_
   rintro ⟨e6, G6⟩ a w ⟨hs6, hr6⟩ hK hM
   replace hM := (Mem.comm hM).to ((.row b5 28 (cE t4) :: .row b2 28 (done.flatMap cE ++ zerosL (l.length - i) [.int .i64 0, .int .i64 0, Str [], .slice none 0 0]) :: (F ++ G6))) (by kernel_rfl)
   refine sP hK 25 (.pointer (some ⟨b2, i * 4, none⟩)) (by kernel_rfl) (run_ixG (k := i) (s := 4) rfl rfl rfl Tryz.underlying26 (by kernel_rfl) (by omega)) fun a hK => ?_
   refine stepStoreAt hK hM 1 (cE e6) (((done ++ [e6]).flatMap cE ++ zerosL (l.length - (i + 1)) [.int .i64 0, .int .i64 0, Str [], .slice none 0 0])) (by kernel_rfl) rfl rfl rfl rfl (by kernel_rfl) rfl rfl (by rw [List.length_append, flat_len (s := 4) (fun _ => rfl), zerosL_length, hR.2.1]; simp only [List.length_cons, List.length_nil]; omega) ((put_next (A := done.flatMap cE) (new := cE e6) (zs := [.int .i64 0, .int .i64 0, Str [], .slice none 0 0]) (m := l.length - i) (k := i * 4) (by rw [flat_len (s := 4) (fun _ => rfl), hR.2.1]) rfl (by omega)).trans (by rw [List.flatMap_append]; simp [Nat.sub_sub])) fun w hM => ?_
   replace hM := hM.to ((.row b5 28 (cE t4) :: .row b2 28 (((done ++ [e6]).flatMap cE ++ zerosL (l.length - (i + 1)) [.int .i64 0, .int .i64 0, Str [], .slice none 0 0])) :: (F ++ G6))) (by kernel_rfl)
   refine rps ?_
   refine rg2 (by kernel_rfl) ?_
   refine sP hK 26 (.int .i64 (((i + 1) : Nat) : Int)) (by kernel_rfl) (run_addN (i := i) (j := 1) rfl rfl rfl (by omega)) fun a hK => ?_
   refine sM hK 15 26 (by kernel_rfl) (.inl rfl) rfl fun a hK => ?_
   refine rps ?_
   have hRn : (i + 1) ≤ l.length ∧ ((done ++ [e6])).length = (i + 1) ∧ samePts ((done ++ [e6])) l ∧ ∀ u ∈ ((done ++ [e6])), ExRows ((F ++ G6)) u := ⟨by omega, by simp [hR.2.1], same_snoc hR.2.2.1 hR.2.1 ht4 hs6, fun x hx => (List.mem_append.1 hx).elim (fun h => (hR.2.2.2 x h).mono fun it hi => List.mem_append_left _ hi) fun h => by obtain rfl := List.mem_singleton.1 h; exact hr6.mono fun it hi => List.mem_append_right _ hi⟩
   have hmn : l.length - (i + 1) < l.length - i := by omega
   exact ⟨(i + 1, (done ++ [e6]), (F ++ G6)), hK.sub ⟨rfl, rfl, rfl, rfl, rfl, rfl, rfl, rfl, trivial⟩, (hM.drop 1), hRn, hmn⟩
  ·refine sP hK 16 (.bool false) (by kernel_rfl) (oB (b := (decide ((((i : Nat) : Int) : Int) < ((l.length : Nat) : Int)))) (by kernel_rfl) (decide_eq_false h3)) fun a hK => ?_
   refine rps ?_
   refine wp_seq ?_
   refine wp_cond_false (hK.get rfl) ?_
   refine wp_exit (exit_then (exit_then (exit_here 0 ?_)))
   refine wp_seq ?_
   refine rg2 (by kernel_rfl) ?_
   refine sM hK 27 5 (by kernel_rfl) (.inl rfl) rfl fun a hK => ?_
   refine sM hK 4 27 (by kernel_rfl) (.inr rfl) rfl fun a hK => ?_
   refine rps ?_
   refine wp_ret ?_
   exact ret_t hK rfl (u := (.slice (some ⟨b2, 0, none⟩) l.length l.length)) rfl (⟨(done, some ⟨b2, 0, none⟩, l.length, .row b2 28 (done.flatMap cE) :: F), by show Ending.returned (Value.slice _ l.length l.length) = Ending.returned (Value.slice _ done.length l.length); rw [show done.length = l.length by omega], hM.to _ (by rw [Nat.sub_eq_zero_of_le (by omega)]; simp [zerosL]), by unfold exsEq neI; rw [show done.length = l.length by omega, samePts_all hR.2.2.1]; simp, .inr ⟨b2, rfl, List.mem_cons_self⟩, fun y hy => (hR.2.2.2 y hy).mono fun it hi => List.mem_cons_of_mem _ hi⟩)
theorem exsEq_len {l m : List Ex} (h : exsEq l m = true) : l.length = m.length := by
 unfold exsEq neI at h
 simp only [Bool.not_not, Bool.and_eq_true, decide_eq_true_eq] at h
 omega
theorem same_mk {e : Ex} {A : Option Addr} {c : Nat} {ks : List Ex} (h : exsEq ks e.ks = true) : (Ex.mk e.op e.num e.nm A c ks).same e = true := by
 rw [same_ex]
 show (decide (e.op = e.op) && (decide (e.num = e.num) && (decide (e.nm = e.nm) && exsEq ks e.ks))) = true
 rw [h]; simp
theorem rows_mk {e : Ex} {A : Option Addr} {c : Nat} {ks : List Ex} {F : List It} (hn : e.nm.length ≤ 65536) (hk : e.ks.length ≤ 1000000) (h : exsEq ks e.ks = true) (hr : RowIn F 28 A (ks.flatMap cE)) (hx : ∀ y ∈ ks, ExRows F y) : ExRows F (.mk e.op e.num e.nm A c ks) :=
 .mk _ ⟨by show e.nm.length ≤ _; omega, by show ks.length ≤ _; rw [exsEq_len h]; omega⟩ hr hx
set_option maxRecDepth 100000 in
set_option maxHeartbeats 4000000 in
theorem ast_copyExpr (e : Ex) : ∀ (w0 : World), ExAt w0 e → e.sh = true → e.sz ≤ 1000000 → Calls Tryz.prog 80 #[vE e] w0 (GivesE w0 e) := by
 induction e using Ex.rec_on
 rename_i e ih
 intro w0 he hsh hsz
 have hesh := ex_sh hsh; have hln := exsSz_len e.ks; have hse := sz_eq e
 refine calls_K (args := [vE e]) (n := 12) (env := [(0, vE e)]) Tryz.func80 rfl rfl rfl ⟨rfl, trivial⟩ fun a w hK hM => ?_
 refine wp_seq ?_
 refine rg2 (by kernel_rfl) ?_
 refine sA hK hM 1 28 (cE e) (fun b => pA b 0) (by kernel_rfl) (by kernel_rfl) fun b1 a w hK hM => ?_
 refine sA hK hM 2 28 [.int .i64 0, .int .i64 0, Str [], .slice none 0 0] (fun b => pA b 0) (by kernel_rfl) (by kernel_rfl) fun b2 a w hK hM => ?_
 refine rps ?_
 refine wp_seq ?_
 refine rg5 (by kernel_rfl) ?_
 refine sP hK 3 (pA b1 2) (by kernel_rfl) (by kernel_rfl) fun a hK => ?_
 refine sL hK 4 (Str e.nm) (by kernel_rfl) rfl rfl ((hM.row 1 rfl).cells 2 1) (by kernel_rfl) fun a hK => ?_
 refine sR hK hM 5 #[Str e.nm] (Str e.nm) (by kernel_rfl) (rC en_strings_Clone rfl rfl (by kernel_rfl)) (lib_Clone e.nm _ (by omega)) fun a w hK hM => ?_
 refine sP hK 6 (pA b1 2) (by kernel_rfl) (by kernel_rfl) fun a hK => ?_
 refine sS hK hM 1 (cE e) (by kernel_rfl) rfl rfl rfl rfl (by kernel_rfl) fun w hM => ?_
 replace hM := hM.to [.row b2 28 [.int .i64 0, .int .i64 0, Str [], .slice none 0 0], .row b1 28 (cE e)] (by kernel_rfl)
 refine rps ?_
 refine wp_seq ?_
 refine rg5 (by kernel_rfl) ?_
 refine sP hK 7 (pA b1 3) (by kernel_rfl) (by kernel_rfl) fun a hK => ?_
 refine sL hK 8 (.slice e.A e.ks.length e.c) (by kernel_rfl) rfl rfl ((hM.row 1 rfl).cells 3 1) (by kernel_rfl) fun a hK => ?_
 refine sC hK hM 9 #[.slice e.A e.ks.length e.c, .func (.func 80) #[] #[]] (by kernel_rfl) (rC en_each_Expr rfl rfl (by kernel_rfl)) (ast_eachE e.ks (fun x hx w1 h1 => ih x hx w1 h1 (exsSh_mem hesh.2 hx) (by have h8 := exsSz_mem hx; have h9 := sz_eq e; omega)) _ _ _ (he.kids.on hM.below) (by omega)) ?_
 rintro ⟨K3, A3, c3, G3⟩ a w ⟨hq3, hi3, hr3⟩ hK hM
 replace hM := (Mem.comm hM).to ((.row b2 28 [.int .i64 0, .int .i64 0, Str [], .slice none 0 0] :: .row b1 28 (cE e) :: G3)) (by kernel_rfl)
 refine sP hK 10 (pA b1 3) (by kernel_rfl) (by kernel_rfl) fun a hK => ?_
 refine sS hK hM 1 [.int .i64 e.op, .int .i64 e.num, Str e.nm, .slice A3 K3.length c3] (by kernel_rfl) rfl rfl rfl rfl (by kernel_rfl) fun w hM => ?_
 replace hM := hM.to (.row b2 28 [.int .i64 0, .int .i64 0, Str [], .slice none 0 0] :: .row b1 28 [.int .i64 e.op, .int .i64 e.num, Str e.nm, .slice A3 K3.length c3] :: G3) (by kernel_rfl)
 refine rps ?_
 refine wp_seq ?_
 refine rg2 (by kernel_rfl) ?_
 refine sL hK 11 (.agg #[.int .i64 e.op, .int .i64 e.num, Str e.nm, .slice A3 K3.length c3]) (by kernel_rfl) rfl rfl ((hM.row 1 rfl).cells 0 4) (by kernel_rfl) fun a hK => ?_
 refine sS hK hM 0 [.int .i64 e.op, .int .i64 e.num, Str e.nm, .slice A3 K3.length c3] (by kernel_rfl) rfl rfl rfl rfl (by kernel_rfl) fun w hM => ?_
 replace hM := hM.to (.row b2 28 [.int .i64 e.op, .int .i64 e.num, Str e.nm, .slice A3 K3.length c3] :: .row b1 28 [.int .i64 e.op, .int .i64 e.num, Str e.nm, .slice A3 K3.length c3] :: G3) (by kernel_rfl)
 refine rps ?_
 refine wp_ret ?_
 exact ret_c hK rfl rfl ((hM.row 0 rfl).cells 0 4) (u := (.agg #[.int .i64 e.op, .int .i64 e.num, Str e.nm, .slice A3 K3.length c3])) (by kernel_rfl) (⟨(.mk e.op e.num e.nm A3 c3 K3, G3), rfl, hM.drop 2, same_mk hq3, rows_mk hesh.1 (by omega) hq3 hi3 hr3⟩)
end Go.Proofs.YtiigncmpbkfhmaaGreatDoor
