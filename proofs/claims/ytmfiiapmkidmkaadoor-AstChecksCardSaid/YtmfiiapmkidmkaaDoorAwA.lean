/-
 Package ast's walks, over whatever functions they are handed.
-/
import Derived.Test.YtmfiiapmkidmkaaDoorTreeW
namespace Go.Proofs.YtmfiiapmkidmkaaDoor
open Go Go.RowKit

theorem perm_mid (r : List It) (g F : List It) : (r ++ (g ++ F)).Perm (g ++ (r ++ F)) := by
 rw [← List.append_assoc, ← List.append_assoc]
 exact (List.perm_append_comm).append_right F
theorem perm_mid2 (r : List It) (g F : List It) : (g ++ (r ++ F)).Perm (r ++ (g ++ F)) := (perm_mid r g F).symm
theorem en_ast_walk : Enters Tryd.prog 33 := enters_of Tryd.func33 (by kernel_rfl) rfl
set_option maxRecDepth 100000 in
set_option maxHeartbeats 4000000 in
theorem ast_walk_n {σ : Type} {w0 : World} {G : σ → List It} {ok : Nat → σ → Prop} {f : Ex → Nat → σ → Bool × σ} {g : Sm → Nat → σ → Bool × σ} {fe fs : FuncId} {ce cs : Array Value} (hE : StepE w0 G ok f fe ce) (hS : StepS w0 G ok g fs cs) : ∀ (n : Nat) (es : List Ex) (ss : List Sm) (A : Option Addr) (c : Nat) (B : Option Addr) (e d k : Nat) (s : σ) (F : List It) (w1 : World), exsSz es + smsSz ss < n → d + n ≤ 1000000 → (∀ (s : σ) (F : List It) (w : World), Mem w0 w (G s ++ F) → ExsAt w A es ∧ SmsAt w B ss) → exsSh es = true → smsSh ss = true → Mem w0 w1 (G s ++ F) → ok (exsSz es + smsSz ss + k) s → Calls Tryd.prog 33 #[.slice A es.length c, .slice B ss.length e, .int .i64 ((d : Nat) : Int), .func (.func fe) #[] ce, .func (.func fs) #[] cs] w1 (Gives w0 (fun r : Bool × σ => .bool r.1) (fun r => G r.2 ++ F) fun r => r = walkW f g es ss d s ∧ (r.1 = true → ok k r.2)) := by
 intro n
 induction n with
 | zero => intro es ss A c B e d k s F w1 h; omega
 | succ n ih =>
 intro es ss A c B e d k s F w1 hsz hd hT hs1 hs2 hM0 hok
 have hl1 := exsSz_len es; have hl2 := smsSz_len ss
 refine calls_KM (args := [.slice A es.length c, .slice B ss.length e, .int .i64 ((d : Nat) : Int), .func (.func fe) #[] ce, .func (.func fs) #[] cs]) (n := 71) (env := [(0, .slice A es.length c), (1, .slice B ss.length e), (2, .int .i64 ((d : Nat) : Int)), (3, .func (.func fe) #[] ce), (4, .func (.func fs) #[] cs)]) Tryd.func33 rfl rfl rfl ⟨rfl, rfl, rfl, rfl, rfl, trivial⟩ hM0 fun a w hK hM => ?_
 refine wp_seq ?_
 refine region_go (lst := [0]) (by kernel_rfl) ?_
 refine stepP hK 10 (.bool false) (by kernel_rfl) (by kernel_rfl) fun a hK => ?_
 refine region_done hK [(10, .bool false), (0, .slice A es.length c), (1, .slice B ss.length e), (2, .int .i64 ((d : Nat) : Int)), (3, .func (.func fe) #[] ce), (4, .func (.func fs) #[] cs)] ⟨rfl, rfl, rfl, rfl, rfl, rfl, trivial⟩ fun a hK => ?_
 refine wp_seq ?_
 refine wp_seq ?_
 refine region_go (lst := [0, 1, 2]) (by kernel_rfl) ?_
 refine stepM hK 15 0 (by kernel_rfl) (.inl rfl) rfl fun a hK => ?_
 refine stepP hK 16 (.int .i64 ((es.length : Nat) : Int)) (by kernel_rfl) (by kernel_rfl) fun a hK => ?_
 refine stepP hK 17 (.int .i64 0) (by kernel_rfl) (by kernel_rfl) fun a hK => ?_
 refine region_done hK [(17, .int .i64 0), (16, .int .i64 ((es.length : Nat) : Int)), (15, .slice A es.length c), (10, .bool false), (0, .slice A es.length c), (1, .slice B ss.length e), (2, .int .i64 ((d : Nat) : Int)), (3, .func (.func fe) #[] ce), (4, .func (.func fs) #[] cs)] ⟨rfl, rfl, rfl, rfl, rfl, rfl, rfl, rfl, rfl, trivial⟩ fun a hK => ?_
 refine wp_block ?_
 refine wp_loopX (fun x : Nat × σ => [(16, .int .i64 ((es.length : Nat) : Int)), (15, .slice A es.length c), (10, .bool false), (0, .slice A es.length c), (1, .slice B ss.length e), (2, .int .i64 ((d : Nat) : Int)), (3, .func (.func fe) #[] ce), (4, .func (.func fs) #[] cs), (17, .int .i64 ((x.1 : Nat) : Int))]) (fun x : Nat × σ => ((G x.2 ++ F))) (fun x : Nat × σ => x.1 ≤ es.length ∧ exsWk f (es.drop x.1) d x.2 = exsWk f es d s ∧ ok (exsSz (es.drop x.1) + (smsSz ss + k)) x.2) (fun x : Nat × σ => es.length - x.1) (0, s) (hK.sub ⟨rfl, rfl, rfl, rfl, rfl, rfl, rfl, rfl, rfl, trivial⟩) hM ⟨Nat.zero_le _, rfl, ok_eq hok (by rw [List.drop_zero]; omega)⟩ ?_
 rintro ⟨i, s1⟩ a w hK hM hR
 replace hK : Knows a 71 [(16, .int .i64 ((es.length : Nat) : Int)), (15, .slice A es.length c), (10, .bool false), (0, .slice A es.length c), (1, .slice B ss.length e), (2, .int .i64 ((d : Nat) : Int)), (3, .func (.func fe) #[] ce), (4, .func (.func fs) #[] cs), (17, .int .i64 ((i : Nat) : Int))] := hK
 replace hM : Mem w0 w ((G s1 ++ F)) := hM
 replace hR : i ≤ es.length ∧ exsWk f (es.drop i) d s1 = exsWk f es d s ∧ ok (exsSz (es.drop i) + (smsSz ss + k)) s1 := hR
 refine wp_seq ?_
 refine region_go (lst := [0]) (by kernel_rfl) ?_
 by_cases h1 : (((i : Nat) : Int) : Int) < ((es.length : Nat) : Int)
 ·refine stepP hK 18 (.bool true) (by kernel_rfl) (okBool (b := (decide ((((i : Nat) : Int) : Int) < ((es.length : Nat) : Int)))) (by kernel_rfl) (decide_eq_true h1)) fun a hK => ?_
  refine region_done hK [(18, .bool true), (16, .int .i64 ((es.length : Nat) : Int)), (15, .slice A es.length c), (10, .bool false), (0, .slice A es.length c), (1, .slice B ss.length e), (2, .int .i64 ((d : Nat) : Int)), (3, .func (.func fe) #[] ce), (4, .func (.func fs) #[] cs), (17, .int .i64 ((i : Nat) : Int))] ⟨rfl, rfl, rfl, rfl, rfl, rfl, rfl, rfl, rfl, rfl, trivial⟩ fun a hK => ?_
  refine wp_seq ?_
  refine wp_cond_true (hK.get rfl) ?_
  refine wp_skip ?_
  refine wp_seq ?_
  refine wp_block ?_
  refine wp_seq ?_
  refine region_go (lst := [0, 1, 2, 3]) (by kernel_rfl) ?_
  obtain ⟨t2, ht2⟩ : ∃ t, es[(i : Nat)]? = some t := ⟨_, List.getElem?_eq_getElem (by omega)⟩
  obtain ⟨at2, At2, -⟩ := ((hT _ _ _ hM).1 _ _ ht2).1
  have ct2 : ∀ (s : σ) (F : List It) (w : World), Mem w0 w (G s ++ F) → CellsAt w (at2.add (i * 4)) (cE t2) ∧ ExAt w t2 := fun s F w h => by obtain ⟨⟨a2, h1, h2⟩, h3⟩ := (hT s F w h).1 _ _ ht2; rw [At2] at h1; obtain rfl := Option.some.inj h1; exact ⟨h2, h3⟩
  refine stepP hK 19 (.pointer (some (at2.add (i * 4)))) (by kernel_rfl) (run_ixA (k := i) (s := 4) rfl rfl At2 rfl Tryd.underlying27 (by kernel_rfl) (by omega)) fun a hK => ?_
  refine stepLoad hK 20 (.agg #[.int .i64 t2.op, .int .i64 t2.num, Str t2.nm, .slice t2.A t2.ks.length t2.c]) (by kernel_rfl) rfl rfl ((ct2 _ _ _ hM).1) (by kernel_rfl) fun a hK => ?_
  refine stepAlloc hK hM 12 36 [.int .i64 0, .int .i64 0, Str [], .slice none 0 0] (fun b => .pointer (some ⟨b, 0, none⟩)) (by kernel_rfl) (by kernel_rfl) fun b3 a w hK hM => ?_
  refine stepStore hK hM 0 [.int .i64 t2.op, .int .i64 t2.num, Str t2.nm, .slice t2.A t2.ks.length t2.c] (by kernel_rfl) rfl rfl rfl rfl (by kernel_rfl) fun w hM => ?_
  replace hM := hM.to (.row b3 36 [.int .i64 t2.op, .int .i64 t2.num, Str t2.nm, .slice t2.A t2.ks.length t2.c] :: (G s1 ++ F)) (by kernel_rfl)
  refine region_done hK [(12, .pointer (some ⟨b3, 0, none⟩)), (18, .bool true), (16, .int .i64 ((es.length : Nat) : Int)), (15, .slice A es.length c), (10, .bool false), (0, .slice A es.length c), (1, .slice B ss.length e), (2, .int .i64 ((d : Nat) : Int)), (3, .func (.func fe) #[] ce), (4, .func (.func fs) #[] cs), (17, .int .i64 ((i : Nat) : Int))] ⟨rfl, rfl, rfl, rfl, rfl, rfl, rfl, rfl, rfl, rfl, rfl, trivial⟩ fun a hK => ?_
  refine wp_seq ?_
  refine region_go (lst := [0, 1, 2, 3, 4, 5, 6, 7, 8, 9, 10, 11, 12, 13, 14]) (by kernel_rfl) ?_
  refine stepM hK 21 3 (by kernel_rfl) (.inl rfl) rfl fun a hK => ?_
  refine stepLoad hK 22 (.agg #[.int .i64 t2.op, .int .i64 t2.num, Str t2.nm, .slice t2.A t2.ks.length t2.c]) (by kernel_rfl) rfl rfl ((hM.row 0 rfl).cells 0 4) (by kernel_rfl) fun a hK => ?_
  refine stepM hK 23 2 (by kernel_rfl) (.inl rfl) rfl fun a hK => ?_
  have hc7m : Mem w0 _ (G s1 ++ ([.row b3 36 [.int .i64 t2.op, .int .i64 t2.num, Str t2.nm, .slice t2.A t2.ks.length t2.c]] ++ F)) := (hM.perm (perm_mid [.row b3 36 [.int .i64 t2.op, .int .i64 t2.num, Str t2.nm, .slice t2.A t2.ks.length t2.c]] (G s1) F))
  have hc7 := hE.call t2 d (exsSz t2.ks + (exsSz (es.drop (i + 1)) + (smsSz ss + k))) s1 ([.row b3 36 [.int .i64 t2.op, .int .i64 t2.num, Str t2.nm, .slice t2.A t2.ks.length t2.c]] ++ F) _ hc7m (ct2 _ _ _ hc7m).2 (exsSh_mem hs1 (List.mem_of_getElem? ht2)) (by omega) (ok_eq hR.2.2 (by have h1 := exsSz_drop ht2; have h2 := sz_eq t2; omega))
  replace hc7 := hc7.mono (fun _ _ h => Gives.perm (g' := fun r : Bool × σ => [.row b3 36 [.int .i64 t2.op, .int .i64 t2.num, Str t2.nm, .slice t2.A t2.ks.length t2.c]] ++ (G r.2 ++ F)) (fun r => perm_mid2 [.row b3 36 [.int .i64 t2.op, .int .i64 t2.num, Str t2.nm, .slice t2.A t2.ks.length t2.c]] (G r.2) F) h)
  refine stepCallIn hK 24 _ (by kernel_rfl) (run_callE hE.enters rfl rfl (by kernel_rfl)) (hc7) ?_
  rintro ⟨r4, q5⟩ a w hR6 hK hM
  replace hM := hM.to (.row b3 36 [.int .i64 t2.op, .int .i64 t2.num, Str t2.nm, .slice t2.A t2.ks.length t2.c] :: (G q5 ++ F)) (by kernel_rfl)
  rcases Bool.eq_false_or_eq_true (!r4) with h9 | h9
  ·refine stepP hK 25 (.bool true) (by kernel_rfl) (okBool (b := (!r4)) (by kernel_rfl) h9) fun a hK => ?_
   refine stepM hK 26 25 (by kernel_rfl) (.inl rfl) rfl fun a hK => ?_
   refine stepN hK 27 (by kernel_rfl) fun a hK => ?_
   refine stepN hK 28 (by kernel_rfl) fun a hK => ?_
   refine stepN hK 29 (by kernel_rfl) fun a hK => ?_
   refine stepN hK 30 (by kernel_rfl) fun a hK => ?_
   refine stepN hK 31 (by kernel_rfl) fun a hK => ?_
   refine stepN hK 32 (by kernel_rfl) fun a hK => ?_
   refine stepN hK 33 (by kernel_rfl) fun a hK => ?_
   refine stepN hK 34 (by kernel_rfl) fun a hK => ?_
   refine stepP hK 35 (.bool true) (by kernel_rfl) (by kernel_rfl) fun a hK => ?_
   refine region_done hK [(35, .bool true), (12, .pointer (some ⟨b3, 0, none⟩)), (18, .bool true), (16, .int .i64 ((es.length : Nat) : Int)), (15, .slice A es.length c), (10, .bool false), (0, .slice A es.length c), (1, .slice B ss.length e), (2, .int .i64 ((d : Nat) : Int)), (3, .func (.func fe) #[] ce), (4, .func (.func fs) #[] cs), (17, .int .i64 ((i : Nat) : Int))] ⟨rfl, rfl, rfl, rfl, rfl, rfl, rfl, rfl, rfl, rfl, rfl, rfl, trivial⟩ fun a hK => ?_
   refine wp_cond_true (hK.get rfl) ?_
   refine wp_seq ?_
   refine region_go (lst := [0]) (by kernel_rfl) ?_
   refine stepP hK 10 (.bool false) (by kernel_rfl) (by kernel_rfl) fun a hK => ?_
   refine region_done hK [(10, .bool false), (35, .bool true), (12, .pointer (some ⟨b3, 0, none⟩)), (18, .bool true), (16, .int .i64 ((es.length : Nat) : Int)), (15, .slice A es.length c), (0, .slice A es.length c), (1, .slice B ss.length e), (2, .int .i64 ((d : Nat) : Int)), (3, .func (.func fe) #[] ce), (4, .func (.func fs) #[] cs), (17, .int .i64 ((i : Nat) : Int))] ⟨rfl, rfl, rfl, rfl, rfl, rfl, rfl, rfl, rfl, rfl, rfl, rfl, trivial⟩ fun a hK => ?_
   refine wp_ret ?_
   exact ret_t hK rfl (u := (.bool false)) rfl (⟨(false, q5), rfl, (hM.drop 1), (walkW_stop (exs_stop ht2 hR.2.1 (ex_stop1 (pair_of hR6 (bf_of h9)).symm))).symm, fun h => by cases h⟩)
  ·refine stepP hK 25 (.bool false) (by kernel_rfl) (okBool (b := (!r4)) (by kernel_rfl) h9) fun a hK => ?_
   refine stepM hK 26 25 (by kernel_rfl) (.inl rfl) rfl fun a hK => ?_
   refine stepP hK 27 (.pointer (some ⟨b3, 3, none⟩)) (by kernel_rfl) (by kernel_rfl) fun a hK => ?_
   refine stepLoad hK 28 (.slice t2.A t2.ks.length t2.c) (by kernel_rfl) rfl rfl ((hM.row 0 rfl).cells 3 1) (by kernel_rfl) fun a hK => ?_
   refine stepM hK 29 2 (by kernel_rfl) (.inl rfl) rfl fun a hK => ?_
   refine stepP hK 30 (.int .i64 (((d + 1) : Nat) : Int)) (by kernel_rfl) (run_addN (i := d) (j := 1) rfl rfl rfl (by omega)) fun a hK => ?_
   refine stepM hK 31 3 (by kernel_rfl) (.inl rfl) rfl fun a hK => ?_
   refine stepM hK 32 4 (by kernel_rfl) (.inl rfl) rfl fun a hK => ?_
   have hc13m : Mem w0 _ (G q5 ++ ([.row b3 36 [.int .i64 t2.op, .int .i64 t2.num, Str t2.nm, .slice t2.A t2.ks.length t2.c]] ++ F)) := (hM.perm (perm_mid [.row b3 36 [.int .i64 t2.op, .int .i64 t2.num, Str t2.nm, .slice t2.A t2.ks.length t2.c]] (G q5) F))
   have hc13 := ih t2.ks [] t2.A t2.c none 0 (d + 1) (exsSz (es.drop (i + 1)) + (smsSz ss + k)) q5 ([.row b3 36 [.int .i64 t2.op, .int .i64 t2.num, Str t2.nm, .slice t2.A t2.ks.length t2.c]] ++ F) _ (by have h1 := exsSz_mem (List.mem_of_getElem? ht2); have h2 := sz_eq t2; simp only [smsSz]; omega) (by omega) (fun s F w h => ⟨(ct2 s F w h).2.kids, fun k x hx => by simp at hx⟩) (ex_sh (exsSh_mem hs1 (List.mem_of_getElem? ht2))).2 rfl hc13m (ok_eq (hE.next hR.2.2 (k := (exsSz t2.ks + (exsSz (es.drop (i + 1)) + (smsSz ss + k)))) (by have h1 := exsSz_drop ht2; have h2 := sz_eq t2; omega) (pair_of hR6 (bt_of h9)).symm) (by simp only [smsSz]; omega))
   replace hc13 := hc13.mono (fun _ _ h => Gives.perm (g' := fun r : Bool × σ => [.row b3 36 [.int .i64 t2.op, .int .i64 t2.num, Str t2.nm, .slice t2.A t2.ks.length t2.c]] ++ (G r.2 ++ F)) (fun r => perm_mid2 [.row b3 36 [.int .i64 t2.op, .int .i64 t2.num, Str t2.nm, .slice t2.A t2.ks.length t2.c]] (G r.2) F) h)
   refine stepCallIn hK 33 #[.slice t2.A t2.ks.length t2.c, .slice none 0 0, .int .i64 (((d + 1) : Nat) : Int), .func (.func fe) #[] ce, .func (.func fs) #[] cs] (by kernel_rfl) (run_callE en_ast_walk rfl rfl (by kernel_rfl)) (hc13) ?_
   rintro ⟨r10, q11⟩ a w hR12 hK hM
   replace hM := hM.to (.row b3 36 [.int .i64 t2.op, .int .i64 t2.num, Str t2.nm, .slice t2.A t2.ks.length t2.c] :: (G q11 ++ F)) (by kernel_rfl)
   rcases Bool.eq_false_or_eq_true (!r10) with h15 | h15
   ·refine stepP hK 34 (.bool true) (by kernel_rfl) (okBool (b := (!r10)) (by kernel_rfl) h15) fun a hK => ?_
    refine stepP hK 35 (.bool true) (by kernel_rfl) (by kernel_rfl) fun a hK => ?_
    refine region_done hK [(35, .bool true), (12, .pointer (some ⟨b3, 0, none⟩)), (18, .bool true), (16, .int .i64 ((es.length : Nat) : Int)), (15, .slice A es.length c), (10, .bool false), (0, .slice A es.length c), (1, .slice B ss.length e), (2, .int .i64 ((d : Nat) : Int)), (3, .func (.func fe) #[] ce), (4, .func (.func fs) #[] cs), (17, .int .i64 ((i : Nat) : Int))] ⟨rfl, rfl, rfl, rfl, rfl, rfl, rfl, rfl, rfl, rfl, rfl, rfl, trivial⟩ fun a hK => ?_
    refine wp_cond_true (hK.get rfl) ?_
    refine wp_seq ?_
    refine region_go (lst := [0]) (by kernel_rfl) ?_
    refine stepP hK 10 (.bool false) (by kernel_rfl) (by kernel_rfl) fun a hK => ?_
    refine region_done hK [(10, .bool false), (35, .bool true), (12, .pointer (some ⟨b3, 0, none⟩)), (18, .bool true), (16, .int .i64 ((es.length : Nat) : Int)), (15, .slice A es.length c), (0, .slice A es.length c), (1, .slice B ss.length e), (2, .int .i64 ((d : Nat) : Int)), (3, .func (.func fe) #[] ce), (4, .func (.func fs) #[] cs), (17, .int .i64 ((i : Nat) : Int))] ⟨rfl, rfl, rfl, rfl, rfl, rfl, rfl, rfl, rfl, rfl, rfl, rfl, trivial⟩ fun a hK => ?_
    refine wp_ret ?_
    exact ret_t hK rfl (u := (.bool false)) rfl (⟨(false, q11), rfl, (hM.drop 1), (walkW_stop (exs_stop ht2 hR.2.1 (ex_kids (pair_of hR6 (bt_of h9)).symm ((walkW_e.symm.trans (pair_of hR12.1 (bf_of h15)).symm))))).symm, fun h => by cases h⟩)
   ·refine stepP hK 34 (.bool false) (by kernel_rfl) (okBool (b := (!r10)) (by kernel_rfl) h15) fun a hK => ?_
    refine stepP hK 35 (.bool false) (by kernel_rfl) (by kernel_rfl) fun a hK => ?_
    refine region_done hK [(35, .bool false), (12, .pointer (some ⟨b3, 0, none⟩)), (18, .bool true), (16, .int .i64 ((es.length : Nat) : Int)), (15, .slice A es.length c), (10, .bool false), (0, .slice A es.length c), (1, .slice B ss.length e), (2, .int .i64 ((d : Nat) : Int)), (3, .func (.func fe) #[] ce), (4, .func (.func fs) #[] cs), (17, .int .i64 ((i : Nat) : Int))] ⟨rfl, rfl, rfl, rfl, rfl, rfl, rfl, rfl, rfl, rfl, rfl, rfl, trivial⟩ fun a hK => ?_
    refine wp_cond_false (hK.get rfl) ?_
    refine wp_skip ?_
    refine region_go (lst := [0, 1]) (by kernel_rfl) ?_
    refine stepP hK 36 (.int .i64 (((i + 1) : Nat) : Int)) (by kernel_rfl) (run_addN (i := i) (j := 1) rfl rfl rfl (by omega)) fun a hK => ?_
    refine stepM hK 17 36 (by kernel_rfl) (.inl rfl) rfl fun a hK => ?_
    refine region_done hK [(17, .int .i64 (((i + 1) : Nat) : Int)), (35, .bool false), (12, .pointer (some ⟨b3, 0, none⟩)), (18, .bool true), (16, .int .i64 ((es.length : Nat) : Int)), (15, .slice A es.length c), (10, .bool false), (0, .slice A es.length c), (1, .slice B ss.length e), (2, .int .i64 ((d : Nat) : Int)), (3, .func (.func fe) #[] ce), (4, .func (.func fs) #[] cs)] ⟨rfl, rfl, rfl, rfl, rfl, rfl, rfl, rfl, rfl, rfl, rfl, rfl, trivial⟩ fun a hK => ?_
    have hRn : (i + 1) ≤ es.length ∧ exsWk f (es.drop (i + 1)) d q11 = exsWk f es d s ∧ ok (exsSz (es.drop (i + 1)) + (smsSz ss + k)) q11 := ⟨by omega, exs_next ht2 hR.2.1 (ex_kids (pair_of hR6 (bt_of h9)).symm ((walkW_e.symm.trans (pair_of hR12.1 (bt_of h15)).symm))), hR12.2 (bt_of h15)⟩
    have hmn : es.length - (i + 1) < es.length - i := by omega
    exact ⟨(i + 1, q11), hK.sub ⟨rfl, rfl, rfl, rfl, rfl, rfl, rfl, rfl, rfl, trivial⟩, (hM.drop 1), hRn, hmn⟩
 ·refine stepP hK 18 (.bool false) (by kernel_rfl) (okBool (b := (decide ((((i : Nat) : Int) : Int) < ((es.length : Nat) : Int)))) (by kernel_rfl) (decide_eq_false h1)) fun a hK => ?_
  refine region_done hK [(18, .bool false), (16, .int .i64 ((es.length : Nat) : Int)), (15, .slice A es.length c), (10, .bool false), (0, .slice A es.length c), (1, .slice B ss.length e), (2, .int .i64 ((d : Nat) : Int)), (3, .func (.func fe) #[] ce), (4, .func (.func fs) #[] cs), (17, .int .i64 ((i : Nat) : Int))] ⟨rfl, rfl, rfl, rfl, rfl, rfl, rfl, rfl, rfl, rfl, trivial⟩ fun a hK => ?_
  refine wp_seq ?_
  refine wp_cond_false (hK.get rfl) ?_
  refine wp_exit (exit_then (exit_then (exit_here 0 ?_)))
  refine wp_seq ?_
  refine wp_seq ?_
  refine region_go (lst := [0, 1, 2]) (by kernel_rfl) ?_
  refine stepM hK 37 1 (by kernel_rfl) (.inl rfl) rfl fun a hK => ?_
  refine stepP hK 38 (.int .i64 ((ss.length : Nat) : Int)) (by kernel_rfl) (by kernel_rfl) fun a hK => ?_
  refine stepP hK 39 (.int .i64 0) (by kernel_rfl) (by kernel_rfl) fun a hK => ?_
  refine region_done hK [(39, .int .i64 0), (38, .int .i64 ((ss.length : Nat) : Int)), (37, .slice B ss.length e), (18, .bool false), (16, .int .i64 ((es.length : Nat) : Int)), (15, .slice A es.length c), (10, .bool false), (0, .slice A es.length c), (1, .slice B ss.length e), (2, .int .i64 ((d : Nat) : Int)), (3, .func (.func fe) #[] ce), (4, .func (.func fs) #[] cs), (17, .int .i64 ((i : Nat) : Int))] ⟨rfl, rfl, rfl, rfl, rfl, rfl, rfl, rfl, rfl, rfl, rfl, rfl, rfl, trivial⟩ fun a hK => ?_
  refine wp_block ?_
  have he0 : exsWk f es d s = (true, s1) := by rw [← hR.2.1, exs_end (by omega)]
  have hei : exsSz (es.drop i) = 0 := exsSz_end (by omega)
  refine wp_loopX (fun x : Nat × σ => [(38, .int .i64 ((ss.length : Nat) : Int)), (37, .slice B ss.length e), (18, .bool false), (16, .int .i64 ((es.length : Nat) : Int)), (15, .slice A es.length c), (10, .bool false), (0, .slice A es.length c), (1, .slice B ss.length e), (2, .int .i64 ((d : Nat) : Int)), (3, .func (.func fe) #[] ce), (4, .func (.func fs) #[] cs), (17, .int .i64 ((i : Nat) : Int)), (39, .int .i64 ((x.1 : Nat) : Int))]) (fun x : Nat × σ => ((G x.2 ++ F))) (fun x : Nat × σ => x.1 ≤ ss.length ∧ smsWk f g (ss.drop x.1) d x.2 = walkW f g es ss d s ∧ ok (smsSz (ss.drop x.1) + k) x.2) (fun x : Nat × σ => ss.length - x.1) (0, s1) (hK.sub ⟨rfl, rfl, rfl, rfl, rfl, rfl, rfl, rfl, rfl, rfl, rfl, rfl, rfl, trivial⟩) hM ⟨Nat.zero_le _, (walkW_go he0).symm, ok_eq hR.2.2 (by rw [hei, List.drop_zero]; omega)⟩ ?_
  rintro ⟨j, s3⟩ a w hK hM hR
  replace hK : Knows a 71 [(38, .int .i64 ((ss.length : Nat) : Int)), (37, .slice B ss.length e), (18, .bool false), (16, .int .i64 ((es.length : Nat) : Int)), (15, .slice A es.length c), (10, .bool false), (0, .slice A es.length c), (1, .slice B ss.length e), (2, .int .i64 ((d : Nat) : Int)), (3, .func (.func fe) #[] ce), (4, .func (.func fs) #[] cs), (17, .int .i64 ((i : Nat) : Int)), (39, .int .i64 ((j : Nat) : Int))] := hK
  replace hM : Mem w0 w ((G s3 ++ F)) := hM
  replace hR : j ≤ ss.length ∧ smsWk f g (ss.drop j) d s3 = walkW f g es ss d s ∧ ok (smsSz (ss.drop j) + k) s3 := hR
  refine wp_seq ?_
  refine region_go (lst := [0]) (by kernel_rfl) ?_
  by_cases h16 : (((j : Nat) : Int) : Int) < ((ss.length : Nat) : Int)
  ·refine stepP hK 40 (.bool true) (by kernel_rfl) (okBool (b := (decide ((((j : Nat) : Int) : Int) < ((ss.length : Nat) : Int)))) (by kernel_rfl) (decide_eq_true h16)) fun a hK => ?_
   refine region_done hK [(40, .bool true), (38, .int .i64 ((ss.length : Nat) : Int)), (37, .slice B ss.length e), (18, .bool false), (16, .int .i64 ((es.length : Nat) : Int)), (15, .slice A es.length c), (10, .bool false), (0, .slice A es.length c), (1, .slice B ss.length e), (2, .int .i64 ((d : Nat) : Int)), (3, .func (.func fe) #[] ce), (4, .func (.func fs) #[] cs), (17, .int .i64 ((i : Nat) : Int)), (39, .int .i64 ((j : Nat) : Int))] ⟨rfl, rfl, rfl, rfl, rfl, rfl, rfl, rfl, rfl, rfl, rfl, rfl, rfl, rfl, trivial⟩ fun a hK => ?_
   refine wp_seq ?_
   refine wp_cond_true (hK.get rfl) ?_
   refine wp_skip ?_
   refine wp_seq ?_
   refine wp_block ?_
   refine wp_seq ?_
   refine region_go (lst := [0, 1, 2, 3]) (by kernel_rfl) ?_
   obtain ⟨t17, ht17⟩ : ∃ t, ss[(j : Nat)]? = some t := ⟨_, List.getElem?_eq_getElem (by omega)⟩
   obtain ⟨at17, At17, -⟩ := ((hT _ _ _ hM).2 _ _ ht17).1
   have ct17 : ∀ (s : σ) (F : List It) (w : World), Mem w0 w (G s ++ F) → CellsAt w (at17.add (j * 7)) (cS t17) ∧ SmAt w t17 := fun s F w h => by obtain ⟨⟨a2, h1, h2⟩, h3⟩ := (hT s F w h).2 _ _ ht17; rw [At17] at h1; obtain rfl := Option.some.inj h1; exact ⟨h2, h3⟩
   refine stepP hK 41 (.pointer (some (at17.add (j * 7)))) (by kernel_rfl) (run_ixA (k := j) (s := 7) rfl rfl At17 rfl Tryd.underlying28 (by kernel_rfl) (by omega)) fun a hK => ?_
   refine stepLoad hK 42 (.agg #[.int .i64 t17.kind, Str t17.nm, Str t17.loc, .int .i64 t17.ord, .slice t17.A1 t17.es.length t17.c1, .slice t17.A2 t17.th.length t17.c2, .slice t17.A3 t17.el.length t17.c3]) (by kernel_rfl) rfl rfl ((ct17 _ _ _ hM).1) (by kernel_rfl) fun a hK => ?_
   refine stepAlloc hK hM 14 30 [.int .i64 0, Str [], Str [], .int .i64 0, .slice none 0 0, .slice none 0 0, .slice none 0 0] (fun b => .pointer (some ⟨b, 0, none⟩)) (by kernel_rfl) (by kernel_rfl) fun b18 a w hK hM => ?_
   refine stepStore hK hM 0 [.int .i64 t17.kind, Str t17.nm, Str t17.loc, .int .i64 t17.ord, .slice t17.A1 t17.es.length t17.c1, .slice t17.A2 t17.th.length t17.c2, .slice t17.A3 t17.el.length t17.c3] (by kernel_rfl) rfl rfl rfl rfl (by kernel_rfl) fun w hM => ?_
   replace hM := hM.to (.row b18 30 [.int .i64 t17.kind, Str t17.nm, Str t17.loc, .int .i64 t17.ord, .slice t17.A1 t17.es.length t17.c1, .slice t17.A2 t17.th.length t17.c2, .slice t17.A3 t17.el.length t17.c3] :: (G s3 ++ F)) (by kernel_rfl)
   refine region_done hK [(14, .pointer (some ⟨b18, 0, none⟩)), (40, .bool true), (38, .int .i64 ((ss.length : Nat) : Int)), (37, .slice B ss.length e), (18, .bool false), (16, .int .i64 ((es.length : Nat) : Int)), (15, .slice A es.length c), (10, .bool false), (0, .slice A es.length c), (1, .slice B ss.length e), (2, .int .i64 ((d : Nat) : Int)), (3, .func (.func fe) #[] ce), (4, .func (.func fs) #[] cs), (17, .int .i64 ((i : Nat) : Int)), (39, .int .i64 ((j : Nat) : Int))] ⟨rfl, rfl, rfl, rfl, rfl, rfl, rfl, rfl, rfl, rfl, rfl, rfl, rfl, rfl, rfl, trivial⟩ fun a hK => ?_
   refine wp_seq ?_
   refine region_go (lst := [0, 1, 2, 3, 4, 5, 6, 7, 8, 9, 10, 11, 12, 13, 14, 15, 16, 17, 18, 19, 20, 21, 22, 23, 24, 25, 26]) (by kernel_rfl) ?_
   refine stepM hK 43 4 (by kernel_rfl) (.inl rfl) rfl fun a hK => ?_
   refine stepLoad hK 44 (.agg #[.int .i64 t17.kind, Str t17.nm, Str t17.loc, .int .i64 t17.ord, .slice t17.A1 t17.es.length t17.c1, .slice t17.A2 t17.th.length t17.c2, .slice t17.A3 t17.el.length t17.c3]) (by kernel_rfl) rfl rfl ((hM.row 0 rfl).cells 0 7) (by kernel_rfl) fun a hK => ?_
   refine stepM hK 45 2 (by kernel_rfl) (.inl rfl) rfl fun a hK => ?_
   have hc22m : Mem w0 _ (G s3 ++ ([.row b18 30 [.int .i64 t17.kind, Str t17.nm, Str t17.loc, .int .i64 t17.ord, .slice t17.A1 t17.es.length t17.c1, .slice t17.A2 t17.th.length t17.c2, .slice t17.A3 t17.el.length t17.c3]] ++ F)) := (hM.perm (perm_mid [.row b18 30 [.int .i64 t17.kind, Str t17.nm, Str t17.loc, .int .i64 t17.ord, .slice t17.A1 t17.es.length t17.c1, .slice t17.A2 t17.th.length t17.c2, .slice t17.A3 t17.el.length t17.c3]] (G s3) F))
   have hc22 := hS.call t17 d (exsSz t17.es + smsSz t17.th + (smsSz t17.el + (smsSz (ss.drop (j + 1)) + k))) s3 ([.row b18 30 [.int .i64 t17.kind, Str t17.nm, Str t17.loc, .int .i64 t17.ord, .slice t17.A1 t17.es.length t17.c1, .slice t17.A2 t17.th.length t17.c2, .slice t17.A3 t17.el.length t17.c3]] ++ F) _ hc22m (ct17 _ _ _ hc22m).2 (smsSh_mem hs2 (List.mem_of_getElem? ht17)) (by omega) (ok_eq hR.2.2 (by have h1 := smsSz_drop ht17; have h2 := sm_sz t17; omega))
   replace hc22 := hc22.mono (fun _ _ h => Gives.perm (g' := fun r : Bool × σ => [.row b18 30 [.int .i64 t17.kind, Str t17.nm, Str t17.loc, .int .i64 t17.ord, .slice t17.A1 t17.es.length t17.c1, .slice t17.A2 t17.th.length t17.c2, .slice t17.A3 t17.el.length t17.c3]] ++ (G r.2 ++ F)) (fun r => perm_mid2 [.row b18 30 [.int .i64 t17.kind, Str t17.nm, Str t17.loc, .int .i64 t17.ord, .slice t17.A1 t17.es.length t17.c1, .slice t17.A2 t17.th.length t17.c2, .slice t17.A3 t17.el.length t17.c3]] (G r.2) F) h)
   refine stepCallIn hK 46 _ (by kernel_rfl) (run_callE hS.enters rfl rfl (by kernel_rfl)) (hc22) ?_
   rintro ⟨r19, q20⟩ a w hR21 hK hM
   replace hM := hM.to (.row b18 30 [.int .i64 t17.kind, Str t17.nm, Str t17.loc, .int .i64 t17.ord, .slice t17.A1 t17.es.length t17.c1, .slice t17.A2 t17.th.length t17.c2, .slice t17.A3 t17.el.length t17.c3] :: (G q20 ++ F)) (by kernel_rfl)
   rcases Bool.eq_false_or_eq_true (!r19) with h24 | h24
   ·refine stepP hK 47 (.bool true) (by kernel_rfl) (okBool (b := (!r19)) (by kernel_rfl) h24) fun a hK => ?_
    refine stepM hK 48 47 (by kernel_rfl) (.inl rfl) rfl fun a hK => ?_
    refine stepN hK 49 (by kernel_rfl) fun a hK => ?_
    refine stepN hK 50 (by kernel_rfl) fun a hK => ?_
    refine stepN hK 51 (by kernel_rfl) fun a hK => ?_
    refine stepN hK 52 (by kernel_rfl) fun a hK => ?_
    refine stepN hK 53 (by kernel_rfl) fun a hK => ?_
    refine stepN hK 54 (by kernel_rfl) fun a hK => ?_
    refine stepN hK 55 (by kernel_rfl) fun a hK => ?_
    refine stepN hK 56 (by kernel_rfl) fun a hK => ?_
    refine stepN hK 57 (by kernel_rfl) fun a hK => ?_
    refine stepN hK 58 (by kernel_rfl) fun a hK => ?_
    refine stepP hK 59 (.bool true) (by kernel_rfl) (by kernel_rfl) fun a hK => ?_
    refine stepM hK 60 59 (by kernel_rfl) (.inl rfl) rfl fun a hK => ?_
    refine stepN hK 61 (by kernel_rfl) fun a hK => ?_
    refine stepN hK 62 (by kernel_rfl) fun a hK => ?_
    refine stepN hK 63 (by kernel_rfl) fun a hK => ?_
    refine stepN hK 64 (by kernel_rfl) fun a hK => ?_
    refine stepN hK 65 (by kernel_rfl) fun a hK => ?_
    refine stepN hK 66 (by kernel_rfl) fun a hK => ?_
    refine stepN hK 67 (by kernel_rfl) fun a hK => ?_
    refine stepN hK 68 (by kernel_rfl) fun a hK => ?_
    refine stepP hK 69 (.bool true) (by kernel_rfl) (by kernel_rfl) fun a hK => ?_
    refine region_done hK [(69, .bool true), (14, .pointer (some ⟨b18, 0, none⟩)), (40, .bool true), (38, .int .i64 ((ss.length : Nat) : Int)), (37, .slice B ss.length e), (18, .bool false), (16, .int .i64 ((es.length : Nat) : Int)), (15, .slice A es.length c), (10, .bool false), (0, .slice A es.length c), (1, .slice B ss.length e), (2, .int .i64 ((d : Nat) : Int)), (3, .func (.func fe) #[] ce), (4, .func (.func fs) #[] cs), (17, .int .i64 ((i : Nat) : Int)), (39, .int .i64 ((j : Nat) : Int))] ⟨rfl, rfl, rfl, rfl, rfl, rfl, rfl, rfl, rfl, rfl, rfl, rfl, rfl, rfl, rfl, rfl, trivial⟩ fun a hK => ?_
    refine wp_cond_true (hK.get rfl) ?_
    refine wp_seq ?_
    refine region_go (lst := [0]) (by kernel_rfl) ?_
    refine stepP hK 10 (.bool false) (by kernel_rfl) (by kernel_rfl) fun a hK => ?_
    refine region_done hK [(10, .bool false), (69, .bool true), (14, .pointer (some ⟨b18, 0, none⟩)), (40, .bool true), (38, .int .i64 ((ss.length : Nat) : Int)), (37, .slice B ss.length e), (18, .bool false), (16, .int .i64 ((es.length : Nat) : Int)), (15, .slice A es.length c), (0, .slice A es.length c), (1, .slice B ss.length e), (2, .int .i64 ((d : Nat) : Int)), (3, .func (.func fe) #[] ce), (4, .func (.func fs) #[] cs), (17, .int .i64 ((i : Nat) : Int)), (39, .int .i64 ((j : Nat) : Int))] ⟨rfl, rfl, rfl, rfl, rfl, rfl, rfl, rfl, rfl, rfl, rfl, rfl, rfl, rfl, rfl, rfl, trivial⟩ fun a hK => ?_
    refine wp_ret ?_
    exact ret_t hK rfl (u := (.bool false)) rfl (⟨(false, q20), rfl, (hM.drop 1), (sms_stop ht17 hR.2.1 (sm_stop1 (pair_of hR21 (bf_of h24)).symm)).symm, fun h => by cases h⟩)
   ·refine stepP hK 47 (.bool false) (by kernel_rfl) (okBool (b := (!r19)) (by kernel_rfl) h24) fun a hK => ?_
    refine stepM hK 48 47 (by kernel_rfl) (.inl rfl) rfl fun a hK => ?_
    refine stepP hK 49 (.pointer (some ⟨b18, 4, none⟩)) (by kernel_rfl) (by kernel_rfl) fun a hK => ?_
    refine stepLoad hK 50 (.slice t17.A1 t17.es.length t17.c1) (by kernel_rfl) rfl rfl ((hM.row 0 rfl).cells 4 1) (by kernel_rfl) fun a hK => ?_
    refine stepP hK 51 (.pointer (some ⟨b18, 5, none⟩)) (by kernel_rfl) (by kernel_rfl) fun a hK => ?_
    refine stepLoad hK 52 (.slice t17.A2 t17.th.length t17.c2) (by kernel_rfl) rfl rfl ((hM.row 0 rfl).cells 5 1) (by kernel_rfl) fun a hK => ?_
    refine stepM hK 53 2 (by kernel_rfl) (.inl rfl) rfl fun a hK => ?_
    refine stepP hK 54 (.int .i64 (((d + 1) : Nat) : Int)) (by kernel_rfl) (run_addN (i := d) (j := 1) rfl rfl rfl (by omega)) fun a hK => ?_
    refine stepM hK 55 3 (by kernel_rfl) (.inl rfl) rfl fun a hK => ?_
    refine stepM hK 56 4 (by kernel_rfl) (.inl rfl) rfl fun a hK => ?_
    have hc28m : Mem w0 _ (G q20 ++ ([.row b18 30 [.int .i64 t17.kind, Str t17.nm, Str t17.loc, .int .i64 t17.ord, .slice t17.A1 t17.es.length t17.c1, .slice t17.A2 t17.th.length t17.c2, .slice t17.A3 t17.el.length t17.c3]] ++ F)) := (hM.perm (perm_mid [.row b18 30 [.int .i64 t17.kind, Str t17.nm, Str t17.loc, .int .i64 t17.ord, .slice t17.A1 t17.es.length t17.c1, .slice t17.A2 t17.th.length t17.c2, .slice t17.A3 t17.el.length t17.c3]] (G q20) F))
    have hc28 := ih t17.es t17.th t17.A1 t17.c1 t17.A2 t17.c2 (d + 1) (smsSz t17.el + (smsSz (ss.drop (j + 1)) + k)) q20 ([.row b18 30 [.int .i64 t17.kind, Str t17.nm, Str t17.loc, .int .i64 t17.ord, .slice t17.A1 t17.es.length t17.c1, .slice t17.A2 t17.th.length t17.c2, .slice t17.A3 t17.el.length t17.c3]] ++ F) _ (by have h1 := smsSz_mem (List.mem_of_getElem? ht17); have h2 := sm_sz t17; omega) (by omega) (fun s F w h => ⟨(ct17 s F w h).2.exprs, (ct17 s F w h).2.thn⟩) (sm_sh (smsSh_mem hs2 (List.mem_of_getElem? ht17))).2.2.1 (sm_sh (smsSh_mem hs2 (List.mem_of_getElem? ht17))).2.2.2.1 hc28m (ok_eq (hS.next hR.2.2 (k := (exsSz t17.es + smsSz t17.th + (smsSz t17.el + (smsSz (ss.drop (j + 1)) + k)))) (by have h1 := smsSz_drop ht17; have h2 := sm_sz t17; omega) (pair_of hR21 (bt_of h24)).symm) (by omega))
    replace hc28 := hc28.mono (fun _ _ h => Gives.perm (g' := fun r : Bool × σ => [.row b18 30 [.int .i64 t17.kind, Str t17.nm, Str t17.loc, .int .i64 t17.ord, .slice t17.A1 t17.es.length t17.c1, .slice t17.A2 t17.th.length t17.c2, .slice t17.A3 t17.el.length t17.c3]] ++ (G r.2 ++ F)) (fun r => perm_mid2 [.row b18 30 [.int .i64 t17.kind, Str t17.nm, Str t17.loc, .int .i64 t17.ord, .slice t17.A1 t17.es.length t17.c1, .slice t17.A2 t17.th.length t17.c2, .slice t17.A3 t17.el.length t17.c3]] (G r.2) F) h)
    refine stepCallIn hK 57 #[.slice t17.A1 t17.es.length t17.c1, .slice t17.A2 t17.th.length t17.c2, .int .i64 (((d + 1) : Nat) : Int), .func (.func fe) #[] ce, .func (.func fs) #[] cs] (by kernel_rfl) (run_callE en_ast_walk rfl rfl (by kernel_rfl)) (hc28) ?_
    rintro ⟨r25, q26⟩ a w hR27 hK hM
    replace hM := hM.to (.row b18 30 [.int .i64 t17.kind, Str t17.nm, Str t17.loc, .int .i64 t17.ord, .slice t17.A1 t17.es.length t17.c1, .slice t17.A2 t17.th.length t17.c2, .slice t17.A3 t17.el.length t17.c3] :: (G q26 ++ F)) (by kernel_rfl)
    rcases Bool.eq_false_or_eq_true (!r25) with h30 | h30
    ·refine stepP hK 58 (.bool true) (by kernel_rfl) (okBool (b := (!r25)) (by kernel_rfl) h30) fun a hK => ?_
     refine stepP hK 59 (.bool true) (by kernel_rfl) (by kernel_rfl) fun a hK => ?_
     refine stepM hK 60 59 (by kernel_rfl) (.inl rfl) rfl fun a hK => ?_
     refine stepN hK 61 (by kernel_rfl) fun a hK => ?_
     refine stepN hK 62 (by kernel_rfl) fun a hK => ?_
     refine stepN hK 63 (by kernel_rfl) fun a hK => ?_
     refine stepN hK 64 (by kernel_rfl) fun a hK => ?_
     refine stepN hK 65 (by kernel_rfl) fun a hK => ?_
     refine stepN hK 66 (by kernel_rfl) fun a hK => ?_
     refine stepN hK 67 (by kernel_rfl) fun a hK => ?_
     refine stepN hK 68 (by kernel_rfl) fun a hK => ?_
     refine stepP hK 69 (.bool true) (by kernel_rfl) (by kernel_rfl) fun a hK => ?_
     refine region_done hK [(69, .bool true), (14, .pointer (some ⟨b18, 0, none⟩)), (40, .bool true), (38, .int .i64 ((ss.length : Nat) : Int)), (37, .slice B ss.length e), (18, .bool false), (16, .int .i64 ((es.length : Nat) : Int)), (15, .slice A es.length c), (10, .bool false), (0, .slice A es.length c), (1, .slice B ss.length e), (2, .int .i64 ((d : Nat) : Int)), (3, .func (.func fe) #[] ce), (4, .func (.func fs) #[] cs), (17, .int .i64 ((i : Nat) : Int)), (39, .int .i64 ((j : Nat) : Int))] ⟨rfl, rfl, rfl, rfl, rfl, rfl, rfl, rfl, rfl, rfl, rfl, rfl, rfl, rfl, rfl, rfl, trivial⟩ fun a hK => ?_
     refine wp_cond_true (hK.get rfl) ?_
     refine wp_seq ?_
     refine region_go (lst := [0]) (by kernel_rfl) ?_
     refine stepP hK 10 (.bool false) (by kernel_rfl) (by kernel_rfl) fun a hK => ?_
     refine region_done hK [(10, .bool false), (69, .bool true), (14, .pointer (some ⟨b18, 0, none⟩)), (40, .bool true), (38, .int .i64 ((ss.length : Nat) : Int)), (37, .slice B ss.length e), (18, .bool false), (16, .int .i64 ((es.length : Nat) : Int)), (15, .slice A es.length c), (0, .slice A es.length c), (1, .slice B ss.length e), (2, .int .i64 ((d : Nat) : Int)), (3, .func (.func fe) #[] ce), (4, .func (.func fs) #[] cs), (17, .int .i64 ((i : Nat) : Int)), (39, .int .i64 ((j : Nat) : Int))] ⟨rfl, rfl, rfl, rfl, rfl, rfl, rfl, rfl, rfl, rfl, rfl, rfl, rfl, rfl, rfl, rfl, trivial⟩ fun a hK => ?_
     refine wp_ret ?_
     exact ret_t hK rfl (u := (.bool false)) rfl (⟨(false, q26), rfl, (hM.drop 1), (sms_stop ht17 hR.2.1 (sm_th (pair_of hR21 (bt_of h24)).symm (pair_of hR27.1 (bf_of h30)).symm)).symm, fun h => by cases h⟩)
    ·refine stepP hK 58 (.bool false) (by kernel_rfl) (okBool (b := (!r25)) (by kernel_rfl) h30) fun a hK => ?_
     refine stepP hK 59 (.bool false) (by kernel_rfl) (by kernel_rfl) fun a hK => ?_
     refine stepM hK 60 59 (by kernel_rfl) (.inl rfl) rfl fun a hK => ?_
     refine stepP hK 61 (.pointer (some ⟨b18, 6, none⟩)) (by kernel_rfl) (by kernel_rfl) fun a hK => ?_
     refine stepLoad hK 62 (.slice t17.A3 t17.el.length t17.c3) (by kernel_rfl) rfl rfl ((hM.row 0 rfl).cells 6 1) (by kernel_rfl) fun a hK => ?_
     refine stepM hK 63 2 (by kernel_rfl) (.inl rfl) rfl fun a hK => ?_
     refine stepP hK 64 (.int .i64 (((d + 1) : Nat) : Int)) (by kernel_rfl) (run_addN (i := d) (j := 1) rfl rfl rfl (by omega)) fun a hK => ?_
     refine stepM hK 65 3 (by kernel_rfl) (.inl rfl) rfl fun a hK => ?_
     refine stepM hK 66 4 (by kernel_rfl) (.inl rfl) rfl fun a hK => ?_
     have hc34m : Mem w0 _ (G q26 ++ ([.row b18 30 [.int .i64 t17.kind, Str t17.nm, Str t17.loc, .int .i64 t17.ord, .slice t17.A1 t17.es.length t17.c1, .slice t17.A2 t17.th.length t17.c2, .slice t17.A3 t17.el.length t17.c3]] ++ F)) := (hM.perm (perm_mid [.row b18 30 [.int .i64 t17.kind, Str t17.nm, Str t17.loc, .int .i64 t17.ord, .slice t17.A1 t17.es.length t17.c1, .slice t17.A2 t17.th.length t17.c2, .slice t17.A3 t17.el.length t17.c3]] (G q26) F))
     have hc34 := ih [] t17.el none 0 t17.A3 t17.c3 (d + 1) (smsSz (ss.drop (j + 1)) + k) q26 ([.row b18 30 [.int .i64 t17.kind, Str t17.nm, Str t17.loc, .int .i64 t17.ord, .slice t17.A1 t17.es.length t17.c1, .slice t17.A2 t17.th.length t17.c2, .slice t17.A3 t17.el.length t17.c3]] ++ F) _ (by have h1 := smsSz_mem (List.mem_of_getElem? ht17); have h2 := sm_sz t17; simp only [exsSz]; omega) (by omega) (fun s F w h => ⟨fun k x hx => by simp at hx, (ct17 s F w h).2.els⟩) rfl (sm_sh (smsSh_mem hs2 (List.mem_of_getElem? ht17))).2.2.2.2 hc34m (ok_eq (hR27.2 (bt_of h30)) (by simp only [exsSz]; omega))
     replace hc34 := hc34.mono (fun _ _ h => Gives.perm (g' := fun r : Bool × σ => [.row b18 30 [.int .i64 t17.kind, Str t17.nm, Str t17.loc, .int .i64 t17.ord, .slice t17.A1 t17.es.length t17.c1, .slice t17.A2 t17.th.length t17.c2, .slice t17.A3 t17.el.length t17.c3]] ++ (G r.2 ++ F)) (fun r => perm_mid2 [.row b18 30 [.int .i64 t17.kind, Str t17.nm, Str t17.loc, .int .i64 t17.ord, .slice t17.A1 t17.es.length t17.c1, .slice t17.A2 t17.th.length t17.c2, .slice t17.A3 t17.el.length t17.c3]] (G r.2) F) h)
     refine stepCallIn hK 67 #[.slice none 0 0, .slice t17.A3 t17.el.length t17.c3, .int .i64 (((d + 1) : Nat) : Int), .func (.func fe) #[] ce, .func (.func fs) #[] cs] (by kernel_rfl) (run_callE en_ast_walk rfl rfl (by kernel_rfl)) (hc34) ?_
     rintro ⟨r31, q32⟩ a w hR33 hK hM
     replace hM := hM.to (.row b18 30 [.int .i64 t17.kind, Str t17.nm, Str t17.loc, .int .i64 t17.ord, .slice t17.A1 t17.es.length t17.c1, .slice t17.A2 t17.th.length t17.c2, .slice t17.A3 t17.el.length t17.c3] :: (G q32 ++ F)) (by kernel_rfl)
     rcases Bool.eq_false_or_eq_true (!r31) with h36 | h36
     ·refine stepP hK 68 (.bool true) (by kernel_rfl) (okBool (b := (!r31)) (by kernel_rfl) h36) fun a hK => ?_
      refine stepP hK 69 (.bool true) (by kernel_rfl) (by kernel_rfl) fun a hK => ?_
      refine region_done hK [(69, .bool true), (14, .pointer (some ⟨b18, 0, none⟩)), (40, .bool true), (38, .int .i64 ((ss.length : Nat) : Int)), (37, .slice B ss.length e), (18, .bool false), (16, .int .i64 ((es.length : Nat) : Int)), (15, .slice A es.length c), (10, .bool false), (0, .slice A es.length c), (1, .slice B ss.length e), (2, .int .i64 ((d : Nat) : Int)), (3, .func (.func fe) #[] ce), (4, .func (.func fs) #[] cs), (17, .int .i64 ((i : Nat) : Int)), (39, .int .i64 ((j : Nat) : Int))] ⟨rfl, rfl, rfl, rfl, rfl, rfl, rfl, rfl, rfl, rfl, rfl, rfl, rfl, rfl, rfl, rfl, trivial⟩ fun a hK => ?_
      refine wp_cond_true (hK.get rfl) ?_
      refine wp_seq ?_
      refine region_go (lst := [0]) (by kernel_rfl) ?_
      refine stepP hK 10 (.bool false) (by kernel_rfl) (by kernel_rfl) fun a hK => ?_
      refine region_done hK [(10, .bool false), (69, .bool true), (14, .pointer (some ⟨b18, 0, none⟩)), (40, .bool true), (38, .int .i64 ((ss.length : Nat) : Int)), (37, .slice B ss.length e), (18, .bool false), (16, .int .i64 ((es.length : Nat) : Int)), (15, .slice A es.length c), (0, .slice A es.length c), (1, .slice B ss.length e), (2, .int .i64 ((d : Nat) : Int)), (3, .func (.func fe) #[] ce), (4, .func (.func fs) #[] cs), (17, .int .i64 ((i : Nat) : Int)), (39, .int .i64 ((j : Nat) : Int))] ⟨rfl, rfl, rfl, rfl, rfl, rfl, rfl, rfl, rfl, rfl, rfl, rfl, rfl, rfl, rfl, rfl, trivial⟩ fun a hK => ?_
      refine wp_ret ?_
      exact ret_t hK rfl (u := (.bool false)) rfl (⟨(false, q32), rfl, (hM.drop 1), (sms_stop ht17 hR.2.1 (sm_el (pair_of hR21 (bt_of h24)).symm (pair_of hR27.1 (bt_of h30)).symm (walkW_s.symm.trans (pair_of hR33.1 (bf_of h36)).symm))).symm, fun h => by cases h⟩)
     ·refine stepP hK 68 (.bool false) (by kernel_rfl) (okBool (b := (!r31)) (by kernel_rfl) h36) fun a hK => ?_
      refine stepP hK 69 (.bool false) (by kernel_rfl) (by kernel_rfl) fun a hK => ?_
      refine region_done hK [(69, .bool false), (14, .pointer (some ⟨b18, 0, none⟩)), (40, .bool true), (38, .int .i64 ((ss.length : Nat) : Int)), (37, .slice B ss.length e), (18, .bool false), (16, .int .i64 ((es.length : Nat) : Int)), (15, .slice A es.length c), (10, .bool false), (0, .slice A es.length c), (1, .slice B ss.length e), (2, .int .i64 ((d : Nat) : Int)), (3, .func (.func fe) #[] ce), (4, .func (.func fs) #[] cs), (17, .int .i64 ((i : Nat) : Int)), (39, .int .i64 ((j : Nat) : Int))] ⟨rfl, rfl, rfl, rfl, rfl, rfl, rfl, rfl, rfl, rfl, rfl, rfl, rfl, rfl, rfl, rfl, trivial⟩ fun a hK => ?_
      refine wp_cond_false (hK.get rfl) ?_
      refine wp_skip ?_
      refine region_go (lst := [0, 1]) (by kernel_rfl) ?_
      refine stepP hK 70 (.int .i64 (((j + 1) : Nat) : Int)) (by kernel_rfl) (run_addN (i := j) (j := 1) rfl rfl rfl (by omega)) fun a hK => ?_
      refine stepM hK 39 70 (by kernel_rfl) (.inl rfl) rfl fun a hK => ?_
      refine region_done hK [(39, .int .i64 (((j + 1) : Nat) : Int)), (69, .bool false), (14, .pointer (some ⟨b18, 0, none⟩)), (40, .bool true), (38, .int .i64 ((ss.length : Nat) : Int)), (37, .slice B ss.length e), (18, .bool false), (16, .int .i64 ((es.length : Nat) : Int)), (15, .slice A es.length c), (10, .bool false), (0, .slice A es.length c), (1, .slice B ss.length e), (2, .int .i64 ((d : Nat) : Int)), (3, .func (.func fe) #[] ce), (4, .func (.func fs) #[] cs), (17, .int .i64 ((i : Nat) : Int))] ⟨rfl, rfl, rfl, rfl, rfl, rfl, rfl, rfl, rfl, rfl, rfl, rfl, rfl, rfl, rfl, rfl, trivial⟩ fun a hK => ?_
      have hRn : (j + 1) ≤ ss.length ∧ smsWk f g (ss.drop (j + 1)) d q32 = walkW f g es ss d s ∧ ok (smsSz (ss.drop (j + 1)) + k) q32 := ⟨by omega, sms_next ht17 hR.2.1 (sm_el (pair_of hR21 (bt_of h24)).symm (pair_of hR27.1 (bt_of h30)).symm (walkW_s.symm.trans (pair_of hR33.1 (bt_of h36)).symm)), hR33.2 (bt_of h36)⟩
      have hmn : ss.length - (j + 1) < ss.length - j := by omega
      exact ⟨(j + 1, q32), hK.sub ⟨rfl, rfl, rfl, rfl, rfl, rfl, rfl, rfl, rfl, rfl, rfl, rfl, rfl, trivial⟩, (hM.drop 1), hRn, hmn⟩
  ·refine stepP hK 40 (.bool false) (by kernel_rfl) (okBool (b := (decide ((((j : Nat) : Int) : Int) < ((ss.length : Nat) : Int)))) (by kernel_rfl) (decide_eq_false h16)) fun a hK => ?_
   refine region_done hK [(40, .bool false), (38, .int .i64 ((ss.length : Nat) : Int)), (37, .slice B ss.length e), (18, .bool false), (16, .int .i64 ((es.length : Nat) : Int)), (15, .slice A es.length c), (10, .bool false), (0, .slice A es.length c), (1, .slice B ss.length e), (2, .int .i64 ((d : Nat) : Int)), (3, .func (.func fe) #[] ce), (4, .func (.func fs) #[] cs), (17, .int .i64 ((i : Nat) : Int)), (39, .int .i64 ((j : Nat) : Int))] ⟨rfl, rfl, rfl, rfl, rfl, rfl, rfl, rfl, rfl, rfl, rfl, rfl, rfl, rfl, trivial⟩ fun a hK => ?_
   refine wp_seq ?_
   refine wp_cond_false (hK.get rfl) ?_
   refine wp_exit (exit_then (exit_then (exit_here 2 ?_)))
   refine wp_seq ?_
   refine region_go (lst := [0]) (by kernel_rfl) ?_
   refine stepP hK 10 (.bool true) (by kernel_rfl) (by kernel_rfl) fun a hK => ?_
   refine region_done hK [(10, .bool true), (40, .bool false), (38, .int .i64 ((ss.length : Nat) : Int)), (37, .slice B ss.length e), (18, .bool false), (16, .int .i64 ((es.length : Nat) : Int)), (15, .slice A es.length c), (0, .slice A es.length c), (1, .slice B ss.length e), (2, .int .i64 ((d : Nat) : Int)), (3, .func (.func fe) #[] ce), (4, .func (.func fs) #[] cs), (17, .int .i64 ((i : Nat) : Int)), (39, .int .i64 ((j : Nat) : Int))] ⟨rfl, rfl, rfl, rfl, rfl, rfl, rfl, rfl, rfl, rfl, rfl, rfl, rfl, rfl, trivial⟩ fun a hK => ?_
   refine wp_ret ?_
   exact ret_t hK rfl (u := (.bool true)) rfl (⟨(true, s3), rfl, hM, (hR.2.1.symm.trans (sms_end (by omega))).symm, fun _ => ok_eq hR.2.2 (by rw [smsSz_end (by omega)]; omega)⟩)
theorem ast_walk {σ : Type} {w0 : World} {G : σ → List It} {ok : Nat → σ → Prop} {f : Ex → Nat → σ → Bool × σ} {g : Sm → Nat → σ → Bool × σ} {fe fs : FuncId} {ce cs : Array Value} (hE : StepE w0 G ok f fe ce) (hS : StepS w0 G ok g fs cs) (es : List Ex) (ss : List Sm) (A : Option Addr) (c : Nat) (B : Option Addr) (e d k : Nat) (s : σ) (F : List It) (w1 : World) (hsz : d + (exsSz es + smsSz ss) < 1000000) (hT : ∀ (s : σ) (F : List It) (w : World), Mem w0 w (G s ++ F) → ExsAt w A es ∧ SmsAt w B ss) (h1 : exsSh es = true) (h2 : smsSh ss = true) (hM0 : Mem w0 w1 (G s ++ F)) (hok : ok (exsSz es + smsSz ss + k) s) : Calls Tryd.prog 33 #[.slice A es.length c, .slice B ss.length e, .int .i64 ((d : Nat) : Int), .func (.func fe) #[] ce, .func (.func fs) #[] cs] w1 (Gives w0 (fun r : Bool × σ => .bool r.1) (fun r => G r.2 ++ F) fun r => r = walkW f g es ss d s ∧ (r.1 = true → ok k r.2)) :=
 ast_walk_n hE hS _ es ss A c B e d k s F w1 (Nat.lt_succ_self _) (by omega) hT h1 h2 hM0 hok
end Go.Proofs.YtmfiiapmkidmkaaDoor
