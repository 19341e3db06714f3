/-
  What AstCallsCard stands on, part 4.
-/
import Derived.Test.YtiigncmpbkfhmaaGreatDoorPk3
namespace Go.Proofs.YtiigncmpbkfhmaaGreatDoor
open Go Go.RowKit
theorem en_cantileverref03_SameExpr : Enters Tryz.prog 10 := enters_of Tryz.func10 (by kernel_rfl) rfl
set_option maxRecDepth 100000 in
set_option maxHeartbeats 4000000 in
theorem ref_SameExpr (e : Ex) : ∀ (g : Ex) (w0 : World), ExAt w0 e → ExAt w0 g → Calls Tryz.prog 10 #[vE e, vE g] w0 (Ret w0 (.bool (e.same g))) := by
 induction e using Ex.rec_on
 rename_i e ih
 intro g w0 he hg
 have hel := he.len; have hgl := hg.len
 refine calls_K (args := [vE e, vE g]) (n := 53) (env := [(0, vE e), (1, vE g)]) Tryz.func10 rfl rfl rfl ⟨rfl, rfl, trivial⟩ fun a w hK hM => ?_
 refine wp_seq ?_
 refine rg3 (by kernel_rfl) ?_
 refine sA hK hM 2 28 (cE e) (fun b => pA b 0) (by kernel_rfl) (by kernel_rfl) fun b1 a w hK hM => ?_
 refine sA hK hM 3 28 (cE g) (fun b => pA b 0) (by kernel_rfl) (by kernel_rfl) fun b2 a w hK hM => ?_
 refine sP hK 4 (.bool false) (by kernel_rfl) (by kernel_rfl) fun a hK => ?_
 refine rps ?_
 refine wp_seq ?_
 refine wp_seq ?_
 refine rg28 (by kernel_rfl) ?_
 refine sP hK 6 (pA b1 0) (by kernel_rfl) (by kernel_rfl) fun a hK => ?_
 refine sL hK 7 (.int .i64 e.op) (by kernel_rfl) rfl rfl ((hM.row 1 rfl).cells 0 1) (by kernel_rfl) fun a hK => ?_
 refine sP hK 8 (pA b2 0) (by kernel_rfl) (by kernel_rfl) fun a hK => ?_
 refine sL hK 9 (.int .i64 g.op) (by kernel_rfl) rfl rfl ((hM.row 0 rfl).cells 0 1) (by kernel_rfl) fun a hK => ?_
 rcases Bool.eq_false_or_eq_true (!(decide ((e.op : Int) = g.op))) with h3 | h3
 ·refine sP hK 10 (.bool true) (by kernel_rfl) (oB (b := (!(decide ((e.op : Int) = g.op)))) (by kernel_rfl) h3) fun a hK => ?_
  refine sM hK 11 10 (by kernel_rfl) (.inl rfl) rfl fun a hK => ?_
  refine sN hK 12 (by kernel_rfl) fun a hK => ?_
  refine sN hK 13 (by kernel_rfl) fun a hK => ?_
  refine sN hK 14 (by kernel_rfl) fun a hK => ?_
  refine sN hK 15 (by kernel_rfl) fun a hK => ?_
  refine sN hK 16 (by kernel_rfl) fun a hK => ?_
  refine sP hK 17 (.bool true) (by kernel_rfl) (by kernel_rfl) fun a hK => ?_
  refine sM hK 18 17 (by kernel_rfl) (.inl rfl) rfl fun a hK => ?_
  refine sN hK 19 (by kernel_rfl) fun a hK => ?_
  refine sN hK 20 (by kernel_rfl) fun a hK => ?_
  refine sN hK 21 (by kernel_rfl) fun a hK => ?_
  refine sN hK 22 (by kernel_rfl) fun a hK => ?_
  refine sN hK 23 (by kernel_rfl) fun a hK => ?_
  refine sP hK 24 (.bool true) (by kernel_rfl) (by kernel_rfl) fun a hK => ?_
  refine sM hK 25 24 (by kernel_rfl) (.inl rfl) rfl fun a hK => ?_
  refine sN hK 26 (by kernel_rfl) fun a hK => ?_
  refine sN hK 27 (by kernel_rfl) fun a hK => ?_
  refine sN hK 28 (by kernel_rfl) fun a hK => ?_
  refine sN hK 29 (by kernel_rfl) fun a hK => ?_
  refine sN hK 30 (by kernel_rfl) fun a hK => ?_
  refine sN hK 31 (by kernel_rfl) fun a hK => ?_
  refine sN hK 32 (by kernel_rfl) fun a hK => ?_
  refine sP hK 33 (.bool true) (by kernel_rfl) (by kernel_rfl) fun a hK => ?_
  refine rps ?_
  refine wp_cond_true (hK.get rfl) ?_
  refine wp_seq ?_
  refine rg1 (by kernel_rfl) ?_
  refine sP hK 4 (.bool false) (by kernel_rfl) (by kernel_rfl) fun a hK => ?_
  refine rps ?_
  refine wp_ret ?_
  exact ret_t hK rfl (u := (.bool false)) rfl (⟨by rw [same_eq]; unfold exNe neI neS; rw [h3]; rfl, hM.below⟩)
 ·refine sP hK 10 (.bool false) (by kernel_rfl) (oB (b := (!(decide ((e.op : Int) = g.op)))) (by kernel_rfl) h3) fun a hK => ?_
  refine sM hK 11 10 (by kernel_rfl) (.inl rfl) rfl fun a hK => ?_
  refine sP hK 12 (pA b1 1) (by kernel_rfl) (by kernel_rfl) fun a hK => ?_
  refine sL hK 13 (.int .i64 e.num) (by kernel_rfl) rfl rfl ((hM.row 1 rfl).cells 1 1) (by kernel_rfl) fun a hK => ?_
  refine sP hK 14 (pA b2 1) (by kernel_rfl) (by kernel_rfl) fun a hK => ?_
  refine sL hK 15 (.int .i64 g.num) (by kernel_rfl) rfl rfl ((hM.row 0 rfl).cells 1 1) (by kernel_rfl) fun a hK => ?_
  rcases Bool.eq_false_or_eq_true (!(decide ((e.num : Int) = g.num))) with h4 | h4
  ·refine sP hK 16 (.bool true) (by kernel_rfl) (oB (b := (!(decide ((e.num : Int) = g.num)))) (by kernel_rfl) h4) fun a hK => ?_
   refine sP hK 17 (.bool true) (by kernel_rfl) (by kernel_rfl) fun a hK => ?_
   refine sM hK 18 17 (by kernel_rfl) (.inl rfl) rfl fun a hK => ?_
   refine sN hK 19 (by kernel_rfl) fun a hK => ?_
   refine sN hK 20 (by kernel_rfl) fun a hK => ?_
   refine sN hK 21 (by kernel_rfl) fun a hK => ?_
   refine sN hK 22 (by kernel_rfl) fun a hK => ?_
   refine sN hK 23 (by kernel_rfl) fun a hK => ?_
   refine sP hK 24 (.bool true) (by kernel_rfl) (by kernel_rfl) fun a hK => ?_
   refine sM hK 25 24 (by kernel_rfl) (.inl rfl) rfl fun a hK => ?_
   refine sN hK 26 (by kernel_rfl) fun a hK => ?_
   refine sN hK 27 (by kernel_rfl) fun a hK => ?_
   refine sN hK 28 (by kernel_rfl) fun a hK => ?_
   refine sN hK 29 (by kernel_rfl) fun a hK => ?_
   refine sN hK 30 (by kernel_rfl) fun a hK => ?_
   refine sN hK 31 (by kernel_rfl) fun a hK => ?_
   refine sN hK 32 (by kernel_rfl) fun a hK => ?_
   refine sP hK 33 (.bool true) (by kernel_rfl) (by kernel_rfl) fun a hK => ?_
   refine rps ?_
   refine wp_cond_true (hK.get rfl) ?_
   refine wp_seq ?_
   refine rg1 (by kernel_rfl) ?_
   refine sP hK 4 (.bool false) (by kernel_rfl) (by kernel_rfl) fun a hK => ?_
   refine rps ?_
   refine wp_ret ?_
   exact ret_t hK rfl (u := (.bool false)) rfl (⟨by rw [same_eq]; unfold exNe neI neS; rw [h3, h4]; rfl, hM.below⟩)
  ·refine sP hK 16 (.bool false) (by kernel_rfl) (oB (b := (!(decide ((e.num : Int) = g.num)))) (by kernel_rfl) h4) fun a hK => ?_
   refine sP hK 17 (.bool false) (by kernel_rfl) (by kernel_rfl) fun a hK => ?_
   refine sM hK 18 17 (by kernel_rfl) (.inl rfl) rfl fun a hK => ?_
   refine sP hK 19 (pA b1 2) (by kernel_rfl) (by kernel_rfl) fun a hK => ?_
   refine sL hK 20 (Str e.nm) (by kernel_rfl) rfl rfl ((hM.row 1 rfl).cells 2 1) (by kernel_rfl) fun a hK => ?_
   refine sP hK 21 (pA b2 2) (by kernel_rfl) (by kernel_rfl) fun a hK => ?_
   refine sL hK 22 (Str g.nm) (by kernel_rfl) rfl rfl ((hM.row 0 rfl).cells 2 1) (by kernel_rfl) fun a hK => ?_
   rcases Bool.eq_false_or_eq_true (!(decide (e.nm = g.nm))) with h5 | h5
   ·refine sP hK 23 (.bool true) (by kernel_rfl) (oB (b := (!(decide (e.nm = g.nm)))) (run_neS rfl rfl rfl) h5) fun a hK => ?_
    refine sP hK 24 (.bool true) (by kernel_rfl) (by kernel_rfl) fun a hK => ?_
    refine sM hK 25 24 (by kernel_rfl) (.inl rfl) rfl fun a hK => ?_
    refine sN hK 26 (by kernel_rfl) fun a hK => ?_
    refine sN hK 27 (by kernel_rfl) fun a hK => ?_
    refine sN hK 28 (by kernel_rfl) fun a hK => ?_
    refine sN hK 29 (by kernel_rfl) fun a hK => ?_
    refine sN hK 30 (by kernel_rfl) fun a hK => ?_
    refine sN hK 31 (by kernel_rfl) fun a hK => ?_
    refine sN hK 32 (by kernel_rfl) fun a hK => ?_
    refine sP hK 33 (.bool true) (by kernel_rfl) (by kernel_rfl) fun a hK => ?_
    refine rps ?_
    refine wp_cond_true (hK.get rfl) ?_
    refine wp_seq ?_
    refine rg1 (by kernel_rfl) ?_
    refine sP hK 4 (.bool false) (by kernel_rfl) (by kernel_rfl) fun a hK => ?_
    refine rps ?_
    refine wp_ret ?_
    exact ret_t hK rfl (u := (.bool false)) rfl (⟨by rw [same_eq]; unfold exNe neI neS; rw [h3, h4, h5]; rfl, hM.below⟩)
   ·refine sP hK 23 (.bool false) (by kernel_rfl) (oB (b := (!(decide (e.nm = g.nm)))) (run_neS rfl rfl rfl) h5) fun a hK => ?_
    refine sP hK 24 (.bool false) (by kernel_rfl) (by kernel_rfl) fun a hK => ?_
    refine sM hK 25 24 (by kernel_rfl) (.inl rfl) rfl fun a hK => ?_
    refine sP hK 26 (pA b1 3) (by kernel_rfl) (by kernel_rfl) fun a hK => ?_
    refine sL hK 27 (.slice e.A e.ks.length e.c) (by kernel_rfl) rfl rfl ((hM.row 1 rfl).cells 3 1) (by kernel_rfl) fun a hK => ?_
    refine sP hK 28 (.int .i64 ((e.ks.length : Nat) : Int)) (by kernel_rfl) (by kernel_rfl) fun a hK => ?_
    refine sP hK 29 (pA b2 3) (by kernel_rfl) (by kernel_rfl) fun a hK => ?_
    refine sL hK 30 (.slice g.A g.ks.length g.c) (by kernel_rfl) rfl rfl ((hM.row 0 rfl).cells 3 1) (by kernel_rfl) fun a hK => ?_
    refine sP hK 31 (.int .i64 ((g.ks.length : Nat) : Int)) (by kernel_rfl) (by kernel_rfl) fun a hK => ?_
    rcases Bool.eq_false_or_eq_true (!(decide ((((e.ks.length : Nat) : Int) : Int) = ((g.ks.length : Nat) : Int)))) with h6 | h6
    ·refine sP hK 32 (.bool true) (by kernel_rfl) (oB (b := (!(decide ((((e.ks.length : Nat) : Int) : Int) = ((g.ks.length : Nat) : Int))))) (by kernel_rfl) h6) fun a hK => ?_
     refine sP hK 33 (.bool true) (by kernel_rfl) (by kernel_rfl) fun a hK => ?_
     refine rps ?_
     refine wp_cond_true (hK.get rfl) ?_
     refine wp_seq ?_
     refine rg1 (by kernel_rfl) ?_
     refine sP hK 4 (.bool false) (by kernel_rfl) (by kernel_rfl) fun a hK => ?_
     refine rps ?_
     refine wp_ret ?_
     exact ret_t hK rfl (u := (.bool false)) rfl (⟨by rw [same_eq]; unfold exNe neI neS; rw [h3, h4, h5, h6]; rfl, hM.below⟩)
    ·refine sP hK 32 (.bool false) (by kernel_rfl) (oB (b := (!(decide ((((e.ks.length : Nat) : Int) : Int) = ((g.ks.length : Nat) : Int))))) (by kernel_rfl) h6) fun a hK => ?_
     refine sP hK 33 (.bool false) (by kernel_rfl) (by kernel_rfl) fun a hK => ?_
     refine rps ?_
     refine wp_cond_false (hK.get rfl) ?_
     refine wp_skip ?_
     refine wp_seq ?_
     refine wp_seq ?_
     have hne : exNe e g = false := by unfold exNe neI neS; rw [h3, h4, h5, h6]; rfl
     have hlen : e.ks.length = g.ks.length := by have q := h6; simp at q; omega
     refine rg1 (by kernel_rfl) ?_
     refine sP hK 5 (.int .i64 0) (by kernel_rfl) (by kernel_rfl) fun a hK => ?_
     refine rps ?_
     refine wp_block ?_
     refine wLX (fun x : Nat => [(33, .bool false), (4, .bool false), (3, pA b2 0), (2, pA b1 0), (0, vE e), (1, vE g), (5, vN x)]) (fun x : Nat => [.row b2 28 (cE g), .row b1 28 (cE e)]) (fun x : Nat => x ≤ e.ks.length ∧ exsSame (e.ks.drop x) (g.ks.drop x) = exsSame e.ks g.ks) (fun x : Nat => e.ks.length - x) 0 (hK.sub ⟨rfl, rfl, rfl, rfl, rfl, rfl, rfl, trivial⟩) hM ⟨Nat.zero_le _, rfl⟩ ?_
     rintro i a w hK hM hR
     replace hK : Knows a 53 [(33, .bool false), (4, .bool false), (3, pA b2 0), (2, pA b1 0), (0, vE e), (1, vE g), (5, vN i)] := hK
     replace hM : Mem w0 w [.row b2 28 (cE g), .row b1 28 (cE e)] := hM
     replace hR : i ≤ e.ks.length ∧ exsSame (e.ks.drop i) (g.ks.drop i) = exsSame e.ks g.ks := hR
     refine wp_seq ?_
     refine wp_seq ?_
     refine rg5 (by kernel_rfl) ?_
     refine sM hK 34 5 (by kernel_rfl) (.inl rfl) rfl fun a hK => ?_
     refine sP hK 35 (pA b1 3) (by kernel_rfl) (by kernel_rfl) fun a hK => ?_
     refine sL hK 36 (.slice e.A e.ks.length e.c) (by kernel_rfl) rfl rfl ((hM.row 1 rfl).cells 3 1) (by kernel_rfl) fun a hK => ?_
     refine sP hK 37 (.int .i64 ((e.ks.length : Nat) : Int)) (by kernel_rfl) (by kernel_rfl) fun a hK => ?_
     by_cases h7 : (((i : Nat) : Int) : Int) < ((e.ks.length : Nat) : Int)
     ·refine sP hK 38 (.bool true) (by kernel_rfl) (oB (b := (decide ((((i : Nat) : Int) : Int) < ((e.ks.length : Nat) : Int)))) (by kernel_rfl) (decide_eq_true h7)) fun a hK => ?_
      refine rps ?_
      refine wp_cond_true (hK.get rfl) ?_
      refine wp_skip ?_
      refine wp_seq ?_
      refine wp_block ?_
      refine wp_seq ?_
      obtain ⟨t8, ht8⟩ : ∃ t, e.ks[(i : Nat)]? = some t := ⟨_, List.getElem?_eq_getElem (by omega)⟩
      obtain ⟨⟨at8, At8, ct8⟩, et8⟩ := he.kids _ _ ht8; have nt8 := et8.len
      obtain ⟨t9, ht9⟩ : ∃ t, g.ks[(i : Nat)]? = some t := ⟨_, List.getElem?_eq_getElem (by omega)⟩
      obtain ⟨⟨at9, At9, ct9⟩, et9⟩ := hg.kids _ _ ht9; have nt9 := et9.len
      rcases Bool.eq_false_or_eq_true (t8.same t9) with h10 | h10
      ·refine rAn (F := fun w => Mem w0 w [.row b2 28 (cE g), .row b1 28 (cE e)]) hK [some (pA b1 3), some (.slice e.A e.ks.length e.c), some (vN i), some (.pointer (some (at8.add (i * 4)))), some (vE t8), some (pA b2 3), some (.slice g.A g.ks.length g.c), some (vN i), some (.pointer (some (at9.add (i * 4)))), some (vE t9), some (.bool true), some (.bool false)] 12 (fun _ _ hb hm => hm.go hb) hM (by kernel_rfl) (by kernel_rfl) ⟨⟨⟨⟨⟨⟨⟨⟨⟨⟨⟨⟨trivial, ?_⟩, ?_⟩, ?_⟩, ?_⟩, ?_⟩, ?_⟩, ?_⟩, ?_⟩, ?_⟩, ?_⟩, ?_⟩, ?_⟩ [(52, .bool false), (38, .bool true), (33, .bool false), (4, .bool false), (3, pA b2 0), (2, pA b1 0), (0, vE e), (1, vE g), (5, vN i)] (by kernel_rfl) fun a w hK hM => ?_
       ·exact .val (pA b1 3) rfl (by kernel_rfl) (fun w hM => (by kernel_rfl))
       ·exact .val (.slice e.A e.ks.length e.c) rfl (by kernel_rfl) (fun w hM => rL rfl rfl ((hM.row 1 rfl).cells 3 1) (by kernel_rfl))
       ·exact .val (vN i) rfl (by kernel_rfl) (fun w hM => (by kernel_rfl))
       ·exact .val (.pointer (some (at8.add (i * 4)))) rfl (by kernel_rfl) (fun w hM => (rX (k := i) (s := 4) rfl rfl At8 rfl Tryz.underlying26 (by kernel_rfl) (by omega)))
       ·exact .val (vE t8) rfl (by kernel_rfl) (fun w hM => rL rfl rfl ((ct8.on hM.below)) (by kernel_rfl))
       ·exact .val (pA b2 3) rfl (by kernel_rfl) (fun w hM => (by kernel_rfl))
       ·exact .val (.slice g.A g.ks.length g.c) rfl (by kernel_rfl) (fun w hM => rL rfl rfl ((hM.row 0 rfl).cells 3 1) (by kernel_rfl))
       ·exact .val (vN i) rfl (by kernel_rfl) (fun w hM => (by kernel_rfl))
       ·exact .val (.pointer (some (at9.add (i * 4)))) rfl (by kernel_rfl) (fun w hM => (rX (k := i) (s := 4) rfl rfl At9 rfl Tryz.underlying26 (by kernel_rfl) (by omega)))
       ·exact .val (vE t9) rfl (by kernel_rfl) (fun w hM => rL rfl rfl ((ct9.on hM.below)) (by kernel_rfl))
       ·exact .call _ #[vE t8, vE t9] (.bool true) rfl (by kernel_rfl) (fun w => (rC en_cantileverref03_SameExpr rfl rfl (by kernel_rfl))) (fun w hM => ret_eq (ih t8 (List.mem_of_getElem? ht8) t9 _ (et8.on hM.below) (et9.on hM.below)) (congrArg Value.bool h10))
       ·exact .val (.bool false) rfl (by kernel_rfl) (fun w hM => (by kernel_rfl))
       refine wp_cond_false (hK.get rfl) ?_
       refine wp_skip ?_
       refine rg3 (by kernel_rfl) ?_
       refine sM hK 39 5 (by kernel_rfl) (.inl rfl) rfl fun a hK => ?_
       refine sP hK 40 (.int .i64 (((i + 1) : Nat) : Int)) (by kernel_rfl) (run_addN (i := i) (j := 1) rfl rfl rfl (by omega)) fun a hK => ?_
       refine sM hK 5 40 (by kernel_rfl) (.inr rfl) rfl fun a hK => ?_
       refine rps ?_
       have hRn : (i + 1) ≤ e.ks.length ∧ exsSame (e.ks.drop (i + 1)) (g.ks.drop (i + 1)) = exsSame e.ks g.ks := ⟨by omega, by rw [← hR.2, exsSame_step ht8 ht9, h10, Bool.true_and]⟩
       have hmn : e.ks.length - (i + 1) < e.ks.length - i := by omega
       exact ⟨i + 1, hK.sub ⟨rfl, rfl, rfl, rfl, rfl, rfl, rfl, trivial⟩, hM, hRn, hmn⟩
      ·refine rAn (F := fun w => Mem w0 w [.row b2 28 (cE g), .row b1 28 (cE e)]) hK [some (pA b1 3), some (.slice e.A e.ks.length e.c), some (vN i), some (.pointer (some (at8.add (i * 4)))), some (vE t8), some (pA b2 3), some (.slice g.A g.ks.length g.c), some (vN i), some (.pointer (some (at9.add (i * 4)))), some (vE t9), some (.bool false), some (.bool true)] 12 (fun _ _ hb hm => hm.go hb) hM (by kernel_rfl) (by kernel_rfl) ⟨⟨⟨⟨⟨⟨⟨⟨⟨⟨⟨⟨trivial, ?_⟩, ?_⟩, ?_⟩, ?_⟩, ?_⟩, ?_⟩, ?_⟩, ?_⟩, ?_⟩, ?_⟩, ?_⟩, ?_⟩ [(52, .bool true), (38, .bool true), (33, .bool false), (4, .bool false), (3, pA b2 0), (2, pA b1 0), (0, vE e), (1, vE g), (5, vN i)] (by kernel_rfl) fun a w hK hM => ?_
       ·exact .val (pA b1 3) rfl (by kernel_rfl) (fun w hM => (by kernel_rfl))
       ·exact .val (.slice e.A e.ks.length e.c) rfl (by kernel_rfl) (fun w hM => rL rfl rfl ((hM.row 1 rfl).cells 3 1) (by kernel_rfl))
       ·exact .val (vN i) rfl (by kernel_rfl) (fun w hM => (by kernel_rfl))
       ·exact .val (.pointer (some (at8.add (i * 4)))) rfl (by kernel_rfl) (fun w hM => (rX (k := i) (s := 4) rfl rfl At8 rfl Tryz.underlying26 (by kernel_rfl) (by omega)))
       ·exact .val (vE t8) rfl (by kernel_rfl) (fun w hM => rL rfl rfl ((ct8.on hM.below)) (by kernel_rfl))
       ·exact .val (pA b2 3) rfl (by kernel_rfl) (fun w hM => (by kernel_rfl))
       ·exact .val (.slice g.A g.ks.length g.c) rfl (by kernel_rfl) (fun w hM => rL rfl rfl ((hM.row 0 rfl).cells 3 1) (by kernel_rfl))
       ·exact .val (vN i) rfl (by kernel_rfl) (fun w hM => (by kernel_rfl))
       ·exact .val (.pointer (some (at9.add (i * 4)))) rfl (by kernel_rfl) (fun w hM => (rX (k := i) (s := 4) rfl rfl At9 rfl Tryz.underlying26 (by kernel_rfl) (by omega)))
       ·exact .val (vE t9) rfl (by kernel_rfl) (fun w hM => rL rfl rfl ((ct9.on hM.below)) (by kernel_rfl))
       ·exact .call _ #[vE t8, vE t9] (.bool false) rfl (by kernel_rfl) (fun w => (rC en_cantileverref03_SameExpr rfl rfl (by kernel_rfl))) (fun w hM => ret_eq (ih t8 (List.mem_of_getElem? ht8) t9 _ (et8.on hM.below) (et9.on hM.below)) (congrArg Value.bool h10))
       ·exact .val (.bool true) rfl (by kernel_rfl) (fun w hM => (by kernel_rfl))
       refine wp_cond_true (hK.get rfl) ?_
       refine wp_seq ?_
       refine rg1 (by kernel_rfl) ?_
       refine sP hK 4 (.bool false) (by kernel_rfl) (by kernel_rfl) fun a hK => ?_
       refine rps ?_
       refine wp_ret ?_
       exact ret_t hK rfl (u := (.bool false)) rfl (⟨by rw [same_eq, hne, ← hR.2, exsSame_step ht8 ht9, h10]; rfl, hM.below⟩)
     ·refine sP hK 38 (.bool false) (by kernel_rfl) (oB (b := (decide ((((i : Nat) : Int) : Int) < ((e.ks.length : Nat) : Int)))) (by kernel_rfl) (decide_eq_false h7)) fun a hK => ?_
      refine rps ?_
      refine wp_cond_false (hK.get rfl) ?_
      refine wp_exit (exit_then (exit_then (exit_here 0 ?_)))
      refine wp_seq ?_
      refine rg1 (by kernel_rfl) ?_
      refine sP hK 4 (.bool true) (by kernel_rfl) (by kernel_rfl) fun a hK => ?_
      refine rps ?_
      refine wp_ret ?_
      exact ret_t hK rfl (u := (.bool true)) rfl (⟨by rw [same_eq, hne, ← hR.2, exsSame_end (by omega)]; rfl, hM.below⟩)
end Go.Proofs.YtiigncmpbkfhmaaGreatDoor
namespace Go.Proofs.YtiigncmpbkfhmaaGreatDoor
open Go Go.RowKit
theorem en_cantileverref03_SameStmts : Enters Tryz.prog 28 := enters_of Tryz.func28 (by kernel_rfl) rfl
set_option maxRecDepth 100000 in
set_option maxHeartbeats 4000000 in
theorem ref_SameStmts (l : List Sm) : ∀ (m : List Sm) (A : Option Addr) (c : Nat) (B : Option Addr) (d : Nat) (w0 : World), SmsAt w0 A l → SmsAt w0 B m → l.length ≤ 9223372036854775807 → m.length ≤ 9223372036854775807 → Calls Tryz.prog 28 #[.slice A l.length c, .slice B m.length d] w0 (Ret w0 (.bool (smsEq l m))) := by
 induction l using sms_rec
 rename_i l ih
 intro m A c B d w0 hl hm hln hmn
 refine calls_K (args := [.slice A l.length c, .slice B m.length d]) (n := 98) (env := [(0, .slice A l.length c), (1, .slice B m.length d)]) Tryz.func28 rfl rfl rfl ⟨rfl, rfl, trivial⟩ fun a w hK hM => ?_
 refine wp_seq ?_
 refine rg1 (by kernel_rfl) ?_
 refine sP hK 4 (.bool false) (by kernel_rfl) (by kernel_rfl) fun a hK => ?_
 refine rps ?_
 refine wp_seq ?_
 refine wp_seq ?_
 refine rg5 (by kernel_rfl) ?_
 refine sM hK 9 0 (by kernel_rfl) (.inl rfl) rfl fun a hK => ?_
 refine sP hK 10 (.int .i64 ((l.length : Nat) : Int)) (by kernel_rfl) (by kernel_rfl) fun a hK => ?_
 refine sM hK 11 1 (by kernel_rfl) (.inl rfl) rfl fun a hK => ?_
 refine sP hK 12 (.int .i64 ((m.length : Nat) : Int)) (by kernel_rfl) (by kernel_rfl) fun a hK => ?_
 rcases Bool.eq_false_or_eq_true (!(decide ((((l.length : Nat) : Int) : Int) = ((m.length : Nat) : Int)))) with h1 | h1
 ·refine sP hK 13 (.bool true) (by kernel_rfl) (oB (b := (!(decide ((((l.length : Nat) : Int) : Int) = ((m.length : Nat) : Int))))) (by kernel_rfl) h1) fun a hK => ?_
  refine rps ?_
  refine wp_cond_true (hK.get rfl) ?_
  refine wp_seq ?_
  refine rg1 (by kernel_rfl) ?_
  refine sP hK 4 (.bool false) (by kernel_rfl) (by kernel_rfl) fun a hK => ?_
  refine rps ?_
  refine wp_ret ?_
  exact ret_t hK rfl (u := (.bool false)) rfl (⟨by unfold smsEq neI; rw [h1]; rfl, hM.below⟩)
 ·refine sP hK 13 (.bool false) (by kernel_rfl) (oB (b := (!(decide ((((l.length : Nat) : Int) : Int) = ((m.length : Nat) : Int))))) (by kernel_rfl) h1) fun a hK => ?_
  refine rps ?_
  refine wp_cond_false (hK.get rfl) ?_
  refine wp_skip ?_
  refine wp_seq ?_
  refine wp_seq ?_
  have hne : neI ((l.length : Nat) : Int) ((m.length : Nat) : Int) = false := by unfold neI; rw [h1]
  have hlen : l.length = m.length := by have q := h1; simp at q; omega
  refine rg1 (by kernel_rfl) ?_
  refine sP hK 5 (.int .i64 0) (by kernel_rfl) (by kernel_rfl) fun a hK => ?_
  refine rps ?_
  refine wp_block ?_
  refine wLX (fun x : Nat => [(13, .bool false), (4, .bool false), (0, .slice A l.length c), (1, .slice B m.length d), (5, vN x)]) (fun x : Nat => []) (fun x : Nat => x ≤ l.length ∧ smsSame (l.drop x) (m.drop x) = smsSame l m) (fun x : Nat => l.length - x) 0 (hK.sub ⟨rfl, rfl, rfl, rfl, rfl, trivial⟩) hM ⟨Nat.zero_le _, rfl⟩ ?_
  rintro i a w hK hM hR
  replace hK : Knows a 98 [(13, .bool false), (4, .bool false), (0, .slice A l.length c), (1, .slice B m.length d), (5, vN i)] := hK
  replace hM : Mem w0 w [] := hM
  replace hR : i ≤ l.length ∧ smsSame (l.drop i) (m.drop i) = smsSame l m := hR
  refine wp_seq ?_
  refine wp_seq ?_
  refine rg4 (by kernel_rfl) ?_
  refine sM hK 14 5 (by kernel_rfl) (.inl rfl) rfl fun a hK => ?_
  refine sM hK 15 0 (by kernel_rfl) (.inl rfl) rfl fun a hK => ?_
  refine sP hK 16 (.int .i64 ((l.length : Nat) : Int)) (by kernel_rfl) (by kernel_rfl) fun a hK => ?_
  by_cases h2 : (((i : Nat) : Int) : Int) < ((l.length : Nat) : Int)
  ·refine sP hK 17 (.bool true) (by kernel_rfl) (oB (b := (decide ((((i : Nat) : Int) : Int) < ((l.length : Nat) : Int)))) (by kernel_rfl) (decide_eq_true h2)) fun a hK => ?_
   refine rps ?_
   refine wp_cond_true (hK.get rfl) ?_
   refine wp_skip ?_
   refine wp_seq ?_
   refine wp_block ?_
   refine wp_seq ?_
   obtain ⟨t3, ht3⟩ : ∃ t, l[(i : Nat)]? = some t := ⟨_, List.getElem?_eq_getElem (by omega)⟩
   obtain ⟨⟨at3, At3, ct3⟩, et3⟩ := hl _ _ ht3; have nt3 := et3.len
   obtain ⟨t4, ht4⟩ : ∃ t, m[(i : Nat)]? = some t := ⟨_, List.getElem?_eq_getElem (by omega)⟩
   obtain ⟨⟨at4, At4, ct4⟩, et4⟩ := hm _ _ ht4; have nt4 := et4.len
   refine region_made_strip (F := fun w => Mem w0 w []) hK hM [.val (.slice A l.length c), .val (vN i), .val (.pointer (some (at3.add (i * 7)))), .val (vS t3), .val (.slice B m.length d), .val (vN i), .val (.pointer (some (at4.add (i * 7)))), .val (vS t4), .lay 64 [.int .i64 0, Str [], Str [], .int .i64 0, .slice none 0 0, .slice none 0 0, .slice none 0 0], .lay 64 [.int .i64 0, Str [], Str [], .int .i64 0, .slice none 0 0, .slice none 0 0, .slice none 0 0], .put 8 (cS t3), .put 9 (cS t4)] 12 (fun _ h => h) (by kernel_rfl) (by kernel_rfl) ⟨⟨⟨⟨⟨⟨⟨⟨⟨⟨⟨⟨trivial, ?_⟩, ?_⟩, ?_⟩, ?_⟩, ?_⟩, ?_⟩, ?_⟩, ?_⟩, ?_⟩, ?_⟩, ?_⟩, ?_⟩ (fun β => [(7, .pointer (some ⟨(β 9), 0, none⟩)), (6, .pointer (some ⟨(β 8), 0, none⟩)), (17, .bool true), (13, .bool false), (4, .bool false), (0, .slice A l.length c), (1, .slice B m.length d), (5, vN i)]) (fun β => by kernel_rfl) ?_
   ·exact .val (.slice A l.length c) rfl (fun β => by kernel_rfl) (fun β w hM => (by kernel_rfl))
   ·exact .val (vN i) rfl (fun β => by kernel_rfl) (fun β w hM => (by kernel_rfl))
   ·exact .val (.pointer (some (at3.add (i * 7)))) rfl (fun β => by kernel_rfl) (fun β w hM => (rX (k := i) (s := 7) rfl rfl At3 rfl Tryz.underlying38 (by kernel_rfl) (by omega)))
   ·exact .val (vS t3) rfl (fun β => by kernel_rfl) (fun β w hM => rL rfl rfl ((ct3.on hM.below)) (by kernel_rfl))
   ·exact .val (.slice B m.length d) rfl (fun β => by kernel_rfl) (fun β w hM => (by kernel_rfl))
   ·exact .val (vN i) rfl (fun β => by kernel_rfl) (fun β w hM => (by kernel_rfl))
   ·exact .val (.pointer (some (at4.add (i * 7)))) rfl (fun β => by kernel_rfl) (fun β w hM => (rX (k := i) (s := 7) rfl rfl At4 rfl Tryz.underlying38 (by kernel_rfl) (by omega)))
   ·exact .val (vS t4) rfl (fun β => by kernel_rfl) (fun β w hM => rL rfl rfl ((ct4.on hM.below)) (by kernel_rfl))
   ·exact .lay 64 [.int .i64 0, Str [], Str [], .int .i64 0, .slice none 0 0, .slice none 0 0, .slice none 0 0] rfl (fun β => by kernel_rfl) (fun β w => by kernel_rfl)
   ·exact .lay 64 [.int .i64 0, Str [], Str [], .int .i64 0, .slice none 0 0, .slice none 0 0, .slice none 0 0] rfl (fun β => by kernel_rfl) (fun β w => by kernel_rfl)
   ·exact .put 8 64 [.int .i64 0, Str [], Str [], .int .i64 0, .slice none 0 0, .slice none 0 0, .slice none 0 0] (cS t3) 64 _ _ (vS t3) rfl rfl (fun β => by kernel_rfl) rfl (fun β => rfl) (fun β => rfl) (by kernel_rfl) (by kernel_rfl) (by kernel_rfl)
   ·exact .put 9 64 [.int .i64 0, Str [], Str [], .int .i64 0, .slice none 0 0, .slice none 0 0, .slice none 0 0] (cS t4) 64 _ _ (vS t4) rfl rfl (fun β => by kernel_rfl) rfl (fun β => rfl) (fun β => rfl) (by kernel_rfl) (by kernel_rfl) (by kernel_rfl)
   intro β7 a w hK hM
   have hK2 := hK; have hM2 := hM; clear hK hM
   have hK : Knows a 98 [(7, .pointer (some ⟨(β7 9), 0, none⟩)), (6, .pointer (some ⟨(β7 8), 0, none⟩)), (17, .bool true), (13, .bool false), (4, .bool false), (0, .slice A l.length c), (1, .slice B m.length d), (5, vN i)] := hK2
   have hM := hM2.to [.row (β7 8) 64 (cS t3), .row (β7 9) 64 (cS t4)] (by kernel_rfl)
   clear hK2 hM2
   generalize β7 8 = b5 at hK hM
   generalize β7 9 = b6 at hK hM
   refine wp_seq ?_
   refine wp_seq ?_
   refine rg51 (by kernel_rfl) ?_
   refine sP hK 28 (pA b5 0) (by kernel_rfl) (by kernel_rfl) fun a hK => ?_
   refine sL hK 29 (.int .i64 t3.kind) (by kernel_rfl) rfl rfl ((hM.row 0 rfl).cells 0 1) (by kernel_rfl) fun a hK => ?_
   refine sP hK 30 (pA b6 0) (by kernel_rfl) (by kernel_rfl) fun a hK => ?_
   refine sL hK 31 (.int .i64 t4.kind) (by kernel_rfl) rfl rfl ((hM.row 1 rfl).cells 0 1) (by kernel_rfl) fun a hK => ?_
   rcases Bool.eq_false_or_eq_true (!(decide ((t3.kind : Int) = t4.kind))) with h8 | h8
   ·refine sP hK 32 (.bool true) (by kernel_rfl) (oB (b := (!(decide ((t3.kind : Int) = t4.kind)))) (by kernel_rfl) h8) fun a hK => ?_
    refine sM hK 33 32 (by kernel_rfl) (.inl rfl) rfl fun a hK => ?_
    refine sN hK 34 (by kernel_rfl) fun a hK => ?_
    refine sN hK 35 (by kernel_rfl) fun a hK => ?_
    refine sN hK 36 (by kernel_rfl) fun a hK => ?_
    refine sN hK 37 (by kernel_rfl) fun a hK => ?_
    refine sN hK 38 (by kernel_rfl) fun a hK => ?_
    refine sP hK 39 (.bool true) (by kernel_rfl) (by kernel_rfl) fun a hK => ?_
    refine sM hK 40 39 (by kernel_rfl) (.inl rfl) rfl fun a hK => ?_
    refine sN hK 41 (by kernel_rfl) fun a hK => ?_
    refine sN hK 42 (by kernel_rfl) fun a hK => ?_
    refine sN hK 43 (by kernel_rfl) fun a hK => ?_
    refine sN hK 44 (by kernel_rfl) fun a hK => ?_
    refine sN hK 45 (by kernel_rfl) fun a hK => ?_
    refine sP hK 46 (.bool true) (by kernel_rfl) (by kernel_rfl) fun a hK => ?_
    refine sM hK 47 46 (by kernel_rfl) (.inl rfl) rfl fun a hK => ?_
    refine sN hK 48 (by kernel_rfl) fun a hK => ?_
    refine sN hK 49 (by kernel_rfl) fun a hK => ?_
    refine sN hK 50 (by kernel_rfl) fun a hK => ?_
    refine sN hK 51 (by kernel_rfl) fun a hK => ?_
    refine sN hK 52 (by kernel_rfl) fun a hK => ?_
    refine sP hK 53 (.bool true) (by kernel_rfl) (by kernel_rfl) fun a hK => ?_
    refine sM hK 54 53 (by kernel_rfl) (.inl rfl) rfl fun a hK => ?_
    refine sN hK 55 (by kernel_rfl) fun a hK => ?_
    refine sN hK 56 (by kernel_rfl) fun a hK => ?_
    refine sN hK 57 (by kernel_rfl) fun a hK => ?_
    refine sN hK 58 (by kernel_rfl) fun a hK => ?_
    refine sN hK 59 (by kernel_rfl) fun a hK => ?_
    refine sN hK 60 (by kernel_rfl) fun a hK => ?_
    refine sN hK 61 (by kernel_rfl) fun a hK => ?_
    refine sP hK 62 (.bool true) (by kernel_rfl) (by kernel_rfl) fun a hK => ?_
    refine sM hK 63 62 (by kernel_rfl) (.inl rfl) rfl fun a hK => ?_
    refine sN hK 64 (by kernel_rfl) fun a hK => ?_
    refine sN hK 65 (by kernel_rfl) fun a hK => ?_
    refine sN hK 66 (by kernel_rfl) fun a hK => ?_
    refine sN hK 67 (by kernel_rfl) fun a hK => ?_
    refine sN hK 68 (by kernel_rfl) fun a hK => ?_
    refine sN hK 69 (by kernel_rfl) fun a hK => ?_
    refine sP hK 70 (.bool true) (by kernel_rfl) (by kernel_rfl) fun a hK => ?_
    refine sM hK 71 70 (by kernel_rfl) (.inl rfl) rfl fun a hK => ?_
    refine sN hK 72 (by kernel_rfl) fun a hK => ?_
    refine sN hK 73 (by kernel_rfl) fun a hK => ?_
    refine sN hK 74 (by kernel_rfl) fun a hK => ?_
    refine sN hK 75 (by kernel_rfl) fun a hK => ?_
    refine sN hK 76 (by kernel_rfl) fun a hK => ?_
    refine sN hK 77 (by kernel_rfl) fun a hK => ?_
    refine sP hK 78 (.bool true) (by kernel_rfl) (by kernel_rfl) fun a hK => ?_
    refine rps ?_
    refine wp_cond_true (hK.get rfl) ?_
    refine wp_seq ?_
    refine rg1 (by kernel_rfl) ?_
    refine sP hK 4 (.bool false) (by kernel_rfl) (by kernel_rfl) fun a hK => ?_
    refine rps ?_
    refine wp_ret ?_
    exact ret_t hK rfl (u := (.bool false)) rfl (⟨by have hs : t3.same t4 = false := (by rw [sm_same]; unfold smNe neI neS; rw [h8]; rfl); unfold smsEq; rw [hne, ← hR.2, smsSame_step ht3 ht4, hs]; rfl, hM.below⟩)
   ·refine sP hK 32 (.bool false) (by kernel_rfl) (oB (b := (!(decide ((t3.kind : Int) = t4.kind)))) (by kernel_rfl) h8) fun a hK => ?_
    refine sM hK 33 32 (by kernel_rfl) (.inl rfl) rfl fun a hK => ?_
    refine sP hK 34 (pA b5 1) (by kernel_rfl) (by kernel_rfl) fun a hK => ?_
    refine sL hK 35 (Str t3.nm) (by kernel_rfl) rfl rfl ((hM.row 0 rfl).cells 1 1) (by kernel_rfl) fun a hK => ?_
    refine sP hK 36 (pA b6 1) (by kernel_rfl) (by kernel_rfl) fun a hK => ?_
    refine sL hK 37 (Str t4.nm) (by kernel_rfl) rfl rfl ((hM.row 1 rfl).cells 1 1) (by kernel_rfl) fun a hK => ?_
    rcases Bool.eq_false_or_eq_true (!(decide (t3.nm = t4.nm))) with h9 | h9
    ·refine sP hK 38 (.bool true) (by kernel_rfl) (oB (b := (!(decide (t3.nm = t4.nm)))) (run_neS rfl rfl rfl) h9) fun a hK => ?_
     refine sP hK 39 (.bool true) (by kernel_rfl) (by kernel_rfl) fun a hK => ?_
     refine sM hK 40 39 (by kernel_rfl) (.inl rfl) rfl fun a hK => ?_
     refine sN hK 41 (by kernel_rfl) fun a hK => ?_
     refine sN hK 42 (by kernel_rfl) fun a hK => ?_
     refine sN hK 43 (by kernel_rfl) fun a hK => ?_
     refine sN hK 44 (by kernel_rfl) fun a hK => ?_
     refine sN hK 45 (by kernel_rfl) fun a hK => ?_
     refine sP hK 46 (.bool true) (by kernel_rfl) (by kernel_rfl) fun a hK => ?_
     refine sM hK 47 46 (by kernel_rfl) (.inl rfl) rfl fun a hK => ?_
     refine sN hK 48 (by kernel_rfl) fun a hK => ?_
     refine sN hK 49 (by kernel_rfl) fun a hK => ?_
     refine sN hK 50 (by kernel_rfl) fun a hK => ?_
     refine sN hK 51 (by kernel_rfl) fun a hK => ?_
     refine sN hK 52 (by kernel_rfl) fun a hK => ?_
     refine sP hK 53 (.bool true) (by kernel_rfl) (by kernel_rfl) fun a hK => ?_
     refine sM hK 54 53 (by kernel_rfl) (.inl rfl) rfl fun a hK => ?_
     refine sN hK 55 (by kernel_rfl) fun a hK => ?_
     refine sN hK 56 (by kernel_rfl) fun a hK => ?_
     refine sN hK 57 (by kernel_rfl) fun a hK => ?_
     refine sN hK 58 (by kernel_rfl) fun a hK => ?_
     refine sN hK 59 (by kernel_rfl) fun a hK => ?_
     refine sN hK 60 (by kernel_rfl) fun a hK => ?_
     refine sN hK 61 (by kernel_rfl) fun a hK => ?_
     refine sP hK 62 (.bool true) (by kernel_rfl) (by kernel_rfl) fun a hK => ?_
     refine sM hK 63 62 (by kernel_rfl) (.inl rfl) rfl fun a hK => ?_
     refine sN hK 64 (by kernel_rfl) fun a hK => ?_
     refine sN hK 65 (by kernel_rfl) fun a hK => ?_
     refine sN hK 66 (by kernel_rfl) fun a hK => ?_
     refine sN hK 67 (by kernel_rfl) fun a hK => ?_
     refine sN hK 68 (by kernel_rfl) fun a hK => ?_
     refine sN hK 69 (by kernel_rfl) fun a hK => ?_
     refine sP hK 70 (.bool true) (by kernel_rfl) (by kernel_rfl) fun a hK => ?_
     refine sM hK 71 70 (by kernel_rfl) (.inl rfl) rfl fun a hK => ?_
     refine sN hK 72 (by kernel_rfl) fun a hK => ?_
     refine sN hK 73 (by kernel_rfl) fun a hK => ?_
     refine sN hK 74 (by kernel_rfl) fun a hK => ?_
     refine sN hK 75 (by kernel_rfl) fun a hK => ?_
     refine sN hK 76 (by kernel_rfl) fun a hK => ?_
     refine sN hK 77 (by kernel_rfl) fun a hK => ?_
     refine sP hK 78 (.bool true) (by kernel_rfl) (by kernel_rfl) fun a hK => ?_
     refine rps ?_
     refine wp_cond_true (hK.get rfl) ?_
     refine wp_seq ?_
     refine rg1 (by kernel_rfl) ?_
     refine sP hK 4 (.bool false) (by kernel_rfl) (by kernel_rfl) fun a hK => ?_
     refine rps ?_
     refine wp_ret ?_
     exact ret_t hK rfl (u := (.bool false)) rfl (⟨by have hs : t3.same t4 = false := (by rw [sm_same]; unfold smNe neI neS; rw [h8, h9]; rfl); unfold smsEq; rw [hne, ← hR.2, smsSame_step ht3 ht4, hs]; rfl, hM.below⟩)
    ·refine sP hK 38 (.bool false) (by kernel_rfl) (oB (b := (!(decide (t3.nm = t4.nm)))) (run_neS rfl rfl rfl) h9) fun a hK => ?_
     refine sP hK 39 (.bool false) (by kernel_rfl) (by kernel_rfl) fun a hK => ?_
     refine sM hK 40 39 (by kernel_rfl) (.inl rfl) rfl fun a hK => ?_
     refine sP hK 41 (pA b5 2) (by kernel_rfl) (by kernel_rfl) fun a hK => ?_
     refine sL hK 42 (Str t3.loc) (by kernel_rfl) rfl rfl ((hM.row 0 rfl).cells 2 1) (by kernel_rfl) fun a hK => ?_
     refine sP hK 43 (pA b6 2) (by kernel_rfl) (by kernel_rfl) fun a hK => ?_
     refine sL hK 44 (Str t4.loc) (by kernel_rfl) rfl rfl ((hM.row 1 rfl).cells 2 1) (by kernel_rfl) fun a hK => ?_
     rcases Bool.eq_false_or_eq_true (!(decide (t3.loc = t4.loc))) with h10 | h10
     ·refine sP hK 45 (.bool true) (by kernel_rfl) (oB (b := (!(decide (t3.loc = t4.loc)))) (run_neS rfl rfl rfl) h10) fun a hK => ?_
      refine sP hK 46 (.bool true) (by kernel_rfl) (by kernel_rfl) fun a hK => ?_
      refine sM hK 47 46 (by kernel_rfl) (.inl rfl) rfl fun a hK => ?_
      refine sN hK 48 (by kernel_rfl) fun a hK => ?_
      refine sN hK 49 (by kernel_rfl) fun a hK => ?_
      refine sN hK 50 (by kernel_rfl) fun a hK => ?_
      refine sN hK 51 (by kernel_rfl) fun a hK => ?_
      refine sN hK 52 (by kernel_rfl) fun a hK => ?_
      refine sP hK 53 (.bool true) (by kernel_rfl) (by kernel_rfl) fun a hK => ?_
      refine sM hK 54 53 (by kernel_rfl) (.inl rfl) rfl fun a hK => ?_
      refine sN hK 55 (by kernel_rfl) fun a hK => ?_
      refine sN hK 56 (by kernel_rfl) fun a hK => ?_
      refine sN hK 57 (by kernel_rfl) fun a hK => ?_
      refine sN hK 58 (by kernel_rfl) fun a hK => ?_
      refine sN hK 59 (by kernel_rfl) fun a hK => ?_
      refine sN hK 60 (by kernel_rfl) fun a hK => ?_
      refine sN hK 61 (by kernel_rfl) fun a hK => ?_
      refine sP hK 62 (.bool true) (by kernel_rfl) (by kernel_rfl) fun a hK => ?_
      refine sM hK 63 62 (by kernel_rfl) (.inl rfl) rfl fun a hK => ?_
      refine sN hK 64 (by kernel_rfl) fun a hK => ?_
      refine sN hK 65 (by kernel_rfl) fun a hK => ?_
      refine sN hK 66 (by kernel_rfl) fun a hK => ?_
      refine sN hK 67 (by kernel_rfl) fun a hK => ?_
      refine sN hK 68 (by kernel_rfl) fun a hK => ?_
      refine sN hK 69 (by kernel_rfl) fun a hK => ?_
      refine sP hK 70 (.bool true) (by kernel_rfl) (by kernel_rfl) fun a hK => ?_
      refine sM hK 71 70 (by kernel_rfl) (.inl rfl) rfl fun a hK => ?_
      refine sN hK 72 (by kernel_rfl) fun a hK => ?_
      refine sN hK 73 (by kernel_rfl) fun a hK => ?_
      refine sN hK 74 (by kernel_rfl) fun a hK => ?_
      refine sN hK 75 (by kernel_rfl) fun a hK => ?_
      refine sN hK 76 (by kernel_rfl) fun a hK => ?_
      refine sN hK 77 (by kernel_rfl) fun a hK => ?_
      refine sP hK 78 (.bool true) (by kernel_rfl) (by kernel_rfl) fun a hK => ?_
      refine rps ?_
      refine wp_cond_true (hK.get rfl) ?_
      refine wp_seq ?_
      refine rg1 (by kernel_rfl) ?_
      refine sP hK 4 (.bool false) (by kernel_rfl) (by kernel_rfl) fun a hK => ?_
      refine rps ?_
      refine wp_ret ?_
      exact ret_t hK rfl (u := (.bool false)) rfl (⟨by have hs : t3.same t4 = false := (by rw [sm_same]; unfold smNe neI neS; rw [h8, h9, h10]; rfl); unfold smsEq; rw [hne, ← hR.2, smsSame_step ht3 ht4, hs]; rfl, hM.below⟩)
     ·refine sP hK 45 (.bool false) (by kernel_rfl) (oB (b := (!(decide (t3.loc = t4.loc)))) (run_neS rfl rfl rfl) h10) fun a hK => ?_
      refine sP hK 46 (.bool false) (by kernel_rfl) (by kernel_rfl) fun a hK => ?_
      refine sM hK 47 46 (by kernel_rfl) (.inl rfl) rfl fun a hK => ?_
      refine sP hK 48 (pA b5 3) (by kernel_rfl) (by kernel_rfl) fun a hK => ?_
      refine sL hK 49 (.int .i64 t3.ord) (by kernel_rfl) rfl rfl ((hM.row 0 rfl).cells 3 1) (by kernel_rfl) fun a hK => ?_
      refine sP hK 50 (pA b6 3) (by kernel_rfl) (by kernel_rfl) fun a hK => ?_
      refine sL hK 51 (.int .i64 t4.ord) (by kernel_rfl) rfl rfl ((hM.row 1 rfl).cells 3 1) (by kernel_rfl) fun a hK => ?_
      rcases Bool.eq_false_or_eq_true (!(decide ((t3.ord : Int) = t4.ord))) with h11 | h11
      ·refine sP hK 52 (.bool true) (by kernel_rfl) (oB (b := (!(decide ((t3.ord : Int) = t4.ord)))) (by kernel_rfl) h11) fun a hK => ?_
       refine sP hK 53 (.bool true) (by kernel_rfl) (by kernel_rfl) fun a hK => ?_
       refine sM hK 54 53 (by kernel_rfl) (.inl rfl) rfl fun a hK => ?_
       refine sN hK 55 (by kernel_rfl) fun a hK => ?_
       refine sN hK 56 (by kernel_rfl) fun a hK => ?_
       refine sN hK 57 (by kernel_rfl) fun a hK => ?_
       refine sN hK 58 (by kernel_rfl) fun a hK => ?_
       refine sN hK 59 (by kernel_rfl) fun a hK => ?_
       refine sN hK 60 (by kernel_rfl) fun a hK => ?_
       refine sN hK 61 (by kernel_rfl) fun a hK => ?_
       refine sP hK 62 (.bool true) (by kernel_rfl) (by kernel_rfl) fun a hK => ?_
       refine sM hK 63 62 (by kernel_rfl) (.inl rfl) rfl fun a hK => ?_
       refine sN hK 64 (by kernel_rfl) fun a hK => ?_
       refine sN hK 65 (by kernel_rfl) fun a hK => ?_
       refine sN hK 66 (by kernel_rfl) fun a hK => ?_
       refine sN hK 67 (by kernel_rfl) fun a hK => ?_
       refine sN hK 68 (by kernel_rfl) fun a hK => ?_
       refine sN hK 69 (by kernel_rfl) fun a hK => ?_
       refine sP hK 70 (.bool true) (by kernel_rfl) (by kernel_rfl) fun a hK => ?_
       refine sM hK 71 70 (by kernel_rfl) (.inl rfl) rfl fun a hK => ?_
       refine sN hK 72 (by kernel_rfl) fun a hK => ?_
       refine sN hK 73 (by kernel_rfl) fun a hK => ?_
       refine sN hK 74 (by kernel_rfl) fun a hK => ?_
       refine sN hK 75 (by kernel_rfl) fun a hK => ?_
       refine sN hK 76 (by kernel_rfl) fun a hK => ?_
       refine sN hK 77 (by kernel_rfl) fun a hK => ?_
       refine sP hK 78 (.bool true) (by kernel_rfl) (by kernel_rfl) fun a hK => ?_
       refine rps ?_
       refine wp_cond_true (hK.get rfl) ?_
       refine wp_seq ?_
       refine rg1 (by kernel_rfl) ?_
       refine sP hK 4 (.bool false) (by kernel_rfl) (by kernel_rfl) fun a hK => ?_
       refine rps ?_
       refine wp_ret ?_
       exact ret_t hK rfl (u := (.bool false)) rfl (⟨by have hs : t3.same t4 = false := (by rw [sm_same]; unfold smNe neI neS; rw [h8, h9, h10, h11]; rfl); unfold smsEq; rw [hne, ← hR.2, smsSame_step ht3 ht4, hs]; rfl, hM.below⟩)
      ·refine sP hK 52 (.bool false) (by kernel_rfl) (oB (b := (!(decide ((t3.ord : Int) = t4.ord)))) (by kernel_rfl) h11) fun a hK => ?_
       refine sP hK 53 (.bool false) (by kernel_rfl) (by kernel_rfl) fun a hK => ?_
       refine sM hK 54 53 (by kernel_rfl) (.inl rfl) rfl fun a hK => ?_
       refine sP hK 55 (pA b5 4) (by kernel_rfl) (by kernel_rfl) fun a hK => ?_
       refine sL hK 56 (.slice t3.A1 t3.es.length t3.c1) (by kernel_rfl) rfl rfl ((hM.row 0 rfl).cells 4 1) (by kernel_rfl) fun a hK => ?_
       refine sP hK 57 (.int .i64 ((t3.es.length : Nat) : Int)) (by kernel_rfl) (by kernel_rfl) fun a hK => ?_
       refine sP hK 58 (pA b6 4) (by kernel_rfl) (by kernel_rfl) fun a hK => ?_
       refine sL hK 59 (.slice t4.A1 t4.es.length t4.c1) (by kernel_rfl) rfl rfl ((hM.row 1 rfl).cells 4 1) (by kernel_rfl) fun a hK => ?_
       refine sP hK 60 (.int .i64 ((t4.es.length : Nat) : Int)) (by kernel_rfl) (by kernel_rfl) fun a hK => ?_
       rcases Bool.eq_false_or_eq_true (!(decide ((((t3.es.length : Nat) : Int) : Int) = ((t4.es.length : Nat) : Int)))) with h12 | h12
       ·refine sP hK 61 (.bool true) (by kernel_rfl) (oB (b := (!(decide ((((t3.es.length : Nat) : Int) : Int) = ((t4.es.length : Nat) : Int))))) (by kernel_rfl) h12) fun a hK => ?_
        refine sP hK 62 (.bool true) (by kernel_rfl) (by kernel_rfl) fun a hK => ?_
        refine sM hK 63 62 (by kernel_rfl) (.inl rfl) rfl fun a hK => ?_
        refine sN hK 64 (by kernel_rfl) fun a hK => ?_
        refine sN hK 65 (by kernel_rfl) fun a hK => ?_
        refine sN hK 66 (by kernel_rfl) fun a hK => ?_
        refine sN hK 67 (by kernel_rfl) fun a hK => ?_
        refine sN hK 68 (by kernel_rfl) fun a hK => ?_
        refine sN hK 69 (by kernel_rfl) fun a hK => ?_
        refine sP hK 70 (.bool true) (by kernel_rfl) (by kernel_rfl) fun a hK => ?_
        refine sM hK 71 70 (by kernel_rfl) (.inl rfl) rfl fun a hK => ?_
        refine sN hK 72 (by kernel_rfl) fun a hK => ?_
        refine sN hK 73 (by kernel_rfl) fun a hK => ?_
        refine sN hK 74 (by kernel_rfl) fun a hK => ?_
        refine sN hK 75 (by kernel_rfl) fun a hK => ?_
        refine sN hK 76 (by kernel_rfl) fun a hK => ?_
        refine sN hK 77 (by kernel_rfl) fun a hK => ?_
        refine sP hK 78 (.bool true) (by kernel_rfl) (by kernel_rfl) fun a hK => ?_
        refine rps ?_
        refine wp_cond_true (hK.get rfl) ?_
        refine wp_seq ?_
        refine rg1 (by kernel_rfl) ?_
        refine sP hK 4 (.bool false) (by kernel_rfl) (by kernel_rfl) fun a hK => ?_
        refine rps ?_
        refine wp_ret ?_
        exact ret_t hK rfl (u := (.bool false)) rfl (⟨by have hs : t3.same t4 = false := (by rw [sm_same]; unfold smNe neI neS; rw [h8, h9, h10, h11, h12]; rfl); unfold smsEq; rw [hne, ← hR.2, smsSame_step ht3 ht4, hs]; rfl, hM.below⟩)
       ·refine sP hK 61 (.bool false) (by kernel_rfl) (oB (b := (!(decide ((((t3.es.length : Nat) : Int) : Int) = ((t4.es.length : Nat) : Int))))) (by kernel_rfl) h12) fun a hK => ?_
        refine sP hK 62 (.bool false) (by kernel_rfl) (by kernel_rfl) fun a hK => ?_
        refine sM hK 63 62 (by kernel_rfl) (.inl rfl) rfl fun a hK => ?_
        refine sP hK 64 (pA b5 5) (by kernel_rfl) (by kernel_rfl) fun a hK => ?_
        refine sL hK 65 (.slice t3.A2 t3.th.length t3.c2) (by kernel_rfl) rfl rfl ((hM.row 0 rfl).cells 5 1) (by kernel_rfl) fun a hK => ?_
        refine sP hK 66 (pA b6 5) (by kernel_rfl) (by kernel_rfl) fun a hK => ?_
        refine sL hK 67 (.slice t4.A2 t4.th.length t4.c2) (by kernel_rfl) rfl rfl ((hM.row 1 rfl).cells 5 1) (by kernel_rfl) fun a hK => ?_
        rcases Bool.eq_false_or_eq_true (smsEq t3.th t4.th) with h13 | h13
        ·refine sR hK hM 68 #[.slice t3.A2 t3.th.length t3.c2, .slice t4.A2 t4.th.length t4.c2] (.bool true) (by kernel_rfl) (rC en_cantileverref03_SameStmts rfl rfl (by kernel_rfl)) (ret_eq ((ih t3 (List.mem_of_getElem? ht3)).1 t4.th _ _ _ _ _ (et3.thn.on hM.below) (et4.thn.on hM.below) (by omega) (by omega)) (congrArg Value.bool h13)) fun a w hK hM => ?_
         refine sP hK 69 (.bool false) (by kernel_rfl) (by kernel_rfl) fun a hK => ?_
         refine sP hK 70 (.bool false) (by kernel_rfl) (by kernel_rfl) fun a hK => ?_
         refine sM hK 71 70 (by kernel_rfl) (.inl rfl) rfl fun a hK => ?_
         refine sP hK 72 (pA b5 6) (by kernel_rfl) (by kernel_rfl) fun a hK => ?_
         refine sL hK 73 (.slice t3.A3 t3.el.length t3.c3) (by kernel_rfl) rfl rfl ((hM.row 0 rfl).cells 6 1) (by kernel_rfl) fun a hK => ?_
         refine sP hK 74 (pA b6 6) (by kernel_rfl) (by kernel_rfl) fun a hK => ?_
         refine sL hK 75 (.slice t4.A3 t4.el.length t4.c3) (by kernel_rfl) rfl rfl ((hM.row 1 rfl).cells 6 1) (by kernel_rfl) fun a hK => ?_
         rcases Bool.eq_false_or_eq_true (smsEq t3.el t4.el) with h14 | h14
         ·refine sR hK hM 76 #[.slice t3.A3 t3.el.length t3.c3, .slice t4.A3 t4.el.length t4.c3] (.bool true) (by kernel_rfl) (rC en_cantileverref03_SameStmts rfl rfl (by kernel_rfl)) (ret_eq ((ih t3 (List.mem_of_getElem? ht3)).2 t4.el _ _ _ _ _ (et3.els.on hM.below) (et4.els.on hM.below) (by omega) (by omega)) (congrArg Value.bool h14)) fun a w hK hM => ?_
          refine sP hK 77 (.bool false) (by kernel_rfl) (by kernel_rfl) fun a hK => ?_
          refine sP hK 78 (.bool false) (by kernel_rfl) (by kernel_rfl) fun a hK => ?_
          refine rps ?_
          refine wp_cond_false (hK.get rfl) ?_
          refine wp_skip ?_
          refine wp_seq ?_
          have hsn : ((smNe t3 t4 || !(smsEq t3.th t4.th)) || !(smsEq t3.el t4.el)) = false := by unfold smNe neI neS; rw [h8, h9, h10, h11, h12, h13, h14]; rfl
          have hlen2 : t3.es.length = t4.es.length := by have q := h12; simp at q; omega
          refine rg1 (by kernel_rfl) ?_
          refine sP hK 8 (.int .i64 0) (by kernel_rfl) (by kernel_rfl) fun a hK => ?_
          refine rps ?_
          refine wp_block ?_
          have hRo := hR
          refine wLX (fun x : Nat => [(78, .bool false), (7, pA b6 0), (6, pA b5 0), (17, .bool true), (13, .bool false), (4, .bool false), (0, .slice A l.length c), (1, .slice B m.length d), (5, vN i), (8, vN x)]) (fun x : Nat => [.row b5 64 (cS t3), .row b6 64 (cS t4)]) (fun x : Nat => x ≤ t3.es.length ∧ exsSame (t3.es.drop x) (t4.es.drop x) = exsSame t3.es t4.es) (fun x : Nat => t3.es.length - x) 0 (hK.sub ⟨rfl, rfl, rfl, rfl, rfl, rfl, rfl, rfl, rfl, rfl, trivial⟩) hM ⟨Nat.zero_le _, rfl⟩ ?_
          rintro k a w hK hM hR
          replace hK : Knows a 98 [(78, .bool false), (7, pA b6 0), (6, pA b5 0), (17, .bool true), (13, .bool false), (4, .bool false), (0, .slice A l.length c), (1, .slice B m.length d), (5, vN i), (8, vN k)] := hK
          replace hM : Mem w0 w [.row b5 64 (cS t3), .row b6 64 (cS t4)] := hM
          replace hR : k ≤ t3.es.length ∧ exsSame (t3.es.drop k) (t4.es.drop k) = exsSame t3.es t4.es := hR
          refine wp_seq ?_
          refine wp_seq ?_
          refine rg5 (by kernel_rfl) ?_
          refine sM hK 79 8 (by kernel_rfl) (.inl rfl) rfl fun a hK => ?_
          refine sP hK 80 (pA b5 4) (by kernel_rfl) (by kernel_rfl) fun a hK => ?_
          refine sL hK 81 (.slice t3.A1 t3.es.length t3.c1) (by kernel_rfl) rfl rfl ((hM.row 0 rfl).cells 4 1) (by kernel_rfl) fun a hK => ?_
          refine sP hK 82 (.int .i64 ((t3.es.length : Nat) : Int)) (by kernel_rfl) (by kernel_rfl) fun a hK => ?_
          by_cases h15 : (((k : Nat) : Int) : Int) < ((t3.es.length : Nat) : Int)
          ·refine sP hK 83 (.bool true) (by kernel_rfl) (oB (b := (decide ((((k : Nat) : Int) : Int) < ((t3.es.length : Nat) : Int)))) (by kernel_rfl) (decide_eq_true h15)) fun a hK => ?_
           refine rps ?_
           refine wp_cond_true (hK.get rfl) ?_
           refine wp_skip ?_
           refine wp_seq ?_
           refine wp_block ?_
           refine wp_seq ?_
           obtain ⟨t16, ht16⟩ : ∃ t, t3.es[(k : Nat)]? = some t := ⟨_, List.getElem?_eq_getElem (by omega)⟩
           obtain ⟨⟨at16, At16, ct16⟩, et16⟩ := et3.exprs _ _ ht16; have nt16 := et16.len
           obtain ⟨t17, ht17⟩ : ∃ t, t4.es[(k : Nat)]? = some t := ⟨_, List.getElem?_eq_getElem (by omega)⟩
           obtain ⟨⟨at17, At17, ct17⟩, et17⟩ := et4.exprs _ _ ht17; have nt17 := et17.len
           rcases Bool.eq_false_or_eq_true (t16.same t17) with h18 | h18
           ·refine rAn (F := fun w => Mem w0 w [.row b5 64 (cS t3), .row b6 64 (cS t4)]) hK [some (pA b5 4), some (.slice t3.A1 t3.es.length t3.c1), some (vN k), some (.pointer (some (at16.add (k * 4)))), some (vE t16), some (pA b6 4), some (.slice t4.A1 t4.es.length t4.c1), some (vN k), some (.pointer (some (at17.add (k * 4)))), some (vE t17), some (.bool true), some (.bool false)] 12 (fun _ _ hb hm => hm.go hb) hM (by kernel_rfl) (by kernel_rfl) ⟨⟨⟨⟨⟨⟨⟨⟨⟨⟨⟨⟨trivial, ?_⟩, ?_⟩, ?_⟩, ?_⟩, ?_⟩, ?_⟩, ?_⟩, ?_⟩, ?_⟩, ?_⟩, ?_⟩, ?_⟩ [(97, .bool false), (83, .bool true), (78, .bool false), (7, pA b6 0), (6, pA b5 0), (17, .bool true), (13, .bool false), (4, .bool false), (0, .slice A l.length c), (1, .slice B m.length d), (5, vN i), (8, vN k)] (by kernel_rfl) fun a w hK hM => ?_
            ·exact .val (pA b5 4) rfl (by kernel_rfl) (fun w hM => (by kernel_rfl))
            ·exact .val (.slice t3.A1 t3.es.length t3.c1) rfl (by kernel_rfl) (fun w hM => rL rfl rfl ((hM.row 0 rfl).cells 4 1) (by kernel_rfl))
            ·exact .val (vN k) rfl (by kernel_rfl) (fun w hM => (by kernel_rfl))
            ·exact .val (.pointer (some (at16.add (k * 4)))) rfl (by kernel_rfl) (fun w hM => (rX (k := k) (s := 4) rfl rfl At16 rfl Tryz.underlying26 (by kernel_rfl) (by omega)))
            ·exact .val (vE t16) rfl (by kernel_rfl) (fun w hM => rL rfl rfl ((ct16.on hM.below)) (by kernel_rfl))
            ·exact .val (pA b6 4) rfl (by kernel_rfl) (fun w hM => (by kernel_rfl))
            ·exact .val (.slice t4.A1 t4.es.length t4.c1) rfl (by kernel_rfl) (fun w hM => rL rfl rfl ((hM.row 1 rfl).cells 4 1) (by kernel_rfl))
            ·exact .val (vN k) rfl (by kernel_rfl) (fun w hM => (by kernel_rfl))
            ·exact .val (.pointer (some (at17.add (k * 4)))) rfl (by kernel_rfl) (fun w hM => (rX (k := k) (s := 4) rfl rfl At17 rfl Tryz.underlying26 (by kernel_rfl) (by omega)))
            ·exact .val (vE t17) rfl (by kernel_rfl) (fun w hM => rL rfl rfl ((ct17.on hM.below)) (by kernel_rfl))
            ·exact .call _ #[vE t16, vE t17] (.bool true) rfl (by kernel_rfl) (fun w => (rC en_cantileverref03_SameExpr rfl rfl (by kernel_rfl))) (fun w hM => ret_eq (ref_SameExpr t16 t17 _ (et16.on hM.below) (et17.on hM.below)) (congrArg Value.bool h18))
            ·exact .val (.bool false) rfl (by kernel_rfl) (fun w hM => (by kernel_rfl))
            refine wp_cond_false (hK.get rfl) ?_
            refine wp_skip ?_
            refine rg3 (by kernel_rfl) ?_
            refine sM hK 84 8 (by kernel_rfl) (.inl rfl) rfl fun a hK => ?_
            refine sP hK 85 (.int .i64 (((k + 1) : Nat) : Int)) (by kernel_rfl) (run_addN (i := k) (j := 1) rfl rfl rfl (by omega)) fun a hK => ?_
            refine sM hK 8 85 (by kernel_rfl) (.inr rfl) rfl fun a hK => ?_
            refine rps ?_
            have hRn : (k + 1) ≤ t3.es.length ∧ exsSame (t3.es.drop (k + 1)) (t4.es.drop (k + 1)) = exsSame t3.es t4.es := ⟨by omega, by rw [← hR.2, exsSame_step ht16 ht17, h18, Bool.true_and]⟩
            have hmn : t3.es.length - (k + 1) < t3.es.length - k := by omega
            exact ⟨k + 1, hK.sub ⟨rfl, rfl, rfl, rfl, rfl, rfl, rfl, rfl, rfl, rfl, trivial⟩, hM, hRn, hmn⟩
           ·refine rAn (F := fun w => Mem w0 w [.row b5 64 (cS t3), .row b6 64 (cS t4)]) hK [some (pA b5 4), some (.slice t3.A1 t3.es.length t3.c1), some (vN k), some (.pointer (some (at16.add (k * 4)))), some (vE t16), some (pA b6 4), some (.slice t4.A1 t4.es.length t4.c1), some (vN k), some (.pointer (some (at17.add (k * 4)))), some (vE t17), some (.bool false), some (.bool true)] 12 (fun _ _ hb hm => hm.go hb) hM (by kernel_rfl) (by kernel_rfl) ⟨⟨⟨⟨⟨⟨⟨⟨⟨⟨⟨⟨trivial, ?_⟩, ?_⟩, ?_⟩, ?_⟩, ?_⟩, ?_⟩, ?_⟩, ?_⟩, ?_⟩, ?_⟩, ?_⟩, ?_⟩ [(97, .bool true), (83, .bool true), (78, .bool false), (7, pA b6 0), (6, pA b5 0), (17, .bool true), (13, .bool false), (4, .bool false), (0, .slice A l.length c), (1, .slice B m.length d), (5, vN i), (8, vN k)] (by kernel_rfl) fun a w hK hM => ?_
            ·exact .val (pA b5 4) rfl (by kernel_rfl) (fun w hM => (by kernel_rfl))
            ·exact .val (.slice t3.A1 t3.es.length t3.c1) rfl (by kernel_rfl) (fun w hM => rL rfl rfl ((hM.row 0 rfl).cells 4 1) (by kernel_rfl))
            ·exact .val (vN k) rfl (by kernel_rfl) (fun w hM => (by kernel_rfl))
            ·exact .val (.pointer (some (at16.add (k * 4)))) rfl (by kernel_rfl) (fun w hM => (rX (k := k) (s := 4) rfl rfl At16 rfl Tryz.underlying26 (by kernel_rfl) (by omega)))
            ·exact .val (vE t16) rfl (by kernel_rfl) (fun w hM => rL rfl rfl ((ct16.on hM.below)) (by kernel_rfl))
            ·exact .val (pA b6 4) rfl (by kernel_rfl) (fun w hM => (by kernel_rfl))
            ·exact .val (.slice t4.A1 t4.es.length t4.c1) rfl (by kernel_rfl) (fun w hM => rL rfl rfl ((hM.row 1 rfl).cells 4 1) (by kernel_rfl))
            ·exact .val (vN k) rfl (by kernel_rfl) (fun w hM => (by kernel_rfl))
            ·exact .val (.pointer (some (at17.add (k * 4)))) rfl (by kernel_rfl) (fun w hM => (rX (k := k) (s := 4) rfl rfl At17 rfl Tryz.underlying26 (by kernel_rfl) (by omega)))
            ·exact .val (vE t17) rfl (by kernel_rfl) (fun w hM => rL rfl rfl ((ct17.on hM.below)) (by kernel_rfl))
            ·exact .call _ #[vE t16, vE t17] (.bool false) rfl (by kernel_rfl) (fun w => (rC en_cantileverref03_SameExpr rfl rfl (by kernel_rfl))) (fun w hM => ret_eq (ref_SameExpr t16 t17 _ (et16.on hM.below) (et17.on hM.below)) (congrArg Value.bool h18))
            ·exact .val (.bool true) rfl (by kernel_rfl) (fun w hM => (by kernel_rfl))
            refine wp_cond_true (hK.get rfl) ?_
            refine wp_seq ?_
            refine rg1 (by kernel_rfl) ?_
            refine sP hK 4 (.bool false) (by kernel_rfl) (by kernel_rfl) fun a hK => ?_
            refine rps ?_
            refine wp_ret ?_
            exact ret_t hK rfl (u := (.bool false)) rfl (⟨by have hs : t3.same t4 = false := (by rw [sm_same, hsn, ← hR.2, exsSame_step ht16 ht17, h18]; rfl); unfold smsEq; rw [hne, ← hRo.2, smsSame_step ht3 ht4, hs]; rfl, hM.below⟩)
          ·refine sP hK 83 (.bool false) (by kernel_rfl) (oB (b := (decide ((((k : Nat) : Int) : Int) < ((t3.es.length : Nat) : Int)))) (by kernel_rfl) (decide_eq_false h15)) fun a hK => ?_
           refine rps ?_
           refine wp_cond_false (hK.get rfl) ?_
           refine wp_exit (exit_then (exit_then (exit_here 2 ?_)))
           refine rg3 (by kernel_rfl) ?_
           refine sM hK 18 5 (by kernel_rfl) (.inl rfl) rfl fun a hK => ?_
           refine sP hK 19 (.int .i64 (((i + 1) : Nat) : Int)) (by kernel_rfl) (run_addN (i := i) (j := 1) rfl rfl rfl (by omega)) fun a hK => ?_
           refine sM hK 5 19 (by kernel_rfl) (.inr rfl) rfl fun a hK => ?_
           refine rps ?_
           have hRn : (i + 1) ≤ l.length ∧ smsSame (l.drop (i + 1)) (m.drop (i + 1)) = smsSame l m := ⟨by omega, by rw [← hRo.2, smsSame_step ht3 ht4, sm_same, hsn, ← hR.2, exsSame_end (by omega)]; rfl⟩
           have hmn : l.length - (i + 1) < l.length - i := by omega
           exact ⟨i + 1, hK.sub ⟨rfl, rfl, rfl, rfl, rfl, trivial⟩, (hM.drop 2), hRn, hmn⟩
         ·refine sR hK hM 76 #[.slice t3.A3 t3.el.length t3.c3, .slice t4.A3 t4.el.length t4.c3] (.bool false) (by kernel_rfl) (rC en_cantileverref03_SameStmts rfl rfl (by kernel_rfl)) (ret_eq ((ih t3 (List.mem_of_getElem? ht3)).2 t4.el _ _ _ _ _ (et3.els.on hM.below) (et4.els.on hM.below) (by omega) (by omega)) (congrArg Value.bool h14)) fun a w hK hM => ?_
          refine sP hK 77 (.bool true) (by kernel_rfl) (by kernel_rfl) fun a hK => ?_
          refine sP hK 78 (.bool true) (by kernel_rfl) (by kernel_rfl) fun a hK => ?_
          refine rps ?_
          refine wp_cond_true (hK.get rfl) ?_
          refine wp_seq ?_
          refine rg1 (by kernel_rfl) ?_
          refine sP hK 4 (.bool false) (by kernel_rfl) (by kernel_rfl) fun a hK => ?_
          refine rps ?_
          refine wp_ret ?_
          exact ret_t hK rfl (u := (.bool false)) rfl (⟨by have hs : t3.same t4 = false := (by rw [sm_same]; unfold smNe neI neS; rw [h8, h9, h10, h11, h12, h13, h14]; rfl); unfold smsEq; rw [hne, ← hR.2, smsSame_step ht3 ht4, hs]; rfl, hM.below⟩)
        ·refine sR hK hM 68 #[.slice t3.A2 t3.th.length t3.c2, .slice t4.A2 t4.th.length t4.c2] (.bool false) (by kernel_rfl) (rC en_cantileverref03_SameStmts rfl rfl (by kernel_rfl)) (ret_eq ((ih t3 (List.mem_of_getElem? ht3)).1 t4.th _ _ _ _ _ (et3.thn.on hM.below) (et4.thn.on hM.below) (by omega) (by omega)) (congrArg Value.bool h13)) fun a w hK hM => ?_
         refine sP hK 69 (.bool true) (by kernel_rfl) (by kernel_rfl) fun a hK => ?_
         refine sP hK 70 (.bool true) (by kernel_rfl) (by kernel_rfl) fun a hK => ?_
         refine sM hK 71 70 (by kernel_rfl) (.inl rfl) rfl fun a hK => ?_
         refine sN hK 72 (by kernel_rfl) fun a hK => ?_
         refine sN hK 73 (by kernel_rfl) fun a hK => ?_
         refine sN hK 74 (by kernel_rfl) fun a hK => ?_
         refine sN hK 75 (by kernel_rfl) fun a hK => ?_
         refine sN hK 76 (by kernel_rfl) fun a hK => ?_
         refine sN hK 77 (by kernel_rfl) fun a hK => ?_
         refine sP hK 78 (.bool true) (by kernel_rfl) (by kernel_rfl) fun a hK => ?_
         refine rps ?_
         refine wp_cond_true (hK.get rfl) ?_
         refine wp_seq ?_
         refine rg1 (by kernel_rfl) ?_
         refine sP hK 4 (.bool false) (by kernel_rfl) (by kernel_rfl) fun a hK => ?_
         refine rps ?_
         refine wp_ret ?_
         exact ret_t hK rfl (u := (.bool false)) rfl (⟨by have hs : t3.same t4 = false := (by rw [sm_same]; unfold smNe neI neS; rw [h8, h9, h10, h11, h12, h13]; rfl); unfold smsEq; rw [hne, ← hR.2, smsSame_step ht3 ht4, hs]; rfl, hM.below⟩)
  ·refine sP hK 17 (.bool false) (by kernel_rfl) (oB (b := (decide ((((i : Nat) : Int) : Int) < ((l.length : Nat) : Int)))) (by kernel_rfl) (decide_eq_false h2)) fun a hK => ?_
   refine rps ?_
   refine wp_cond_false (hK.get rfl) ?_
   refine wp_exit (exit_then (exit_then (exit_here 0 ?_)))
   refine wp_seq ?_
   refine rg1 (by kernel_rfl) ?_
   refine sP hK 4 (.bool true) (by kernel_rfl) (by kernel_rfl) fun a hK => ?_
   refine rps ?_
   refine wp_ret ?_
   exact ret_t hK rfl (u := (.bool true)) rfl (⟨by unfold smsEq; rw [hne, ← hR.2, smsSame_end (by omega)]; rfl, hM.below⟩)
end Go.Proofs.YtiigncmpbkfhmaaGreatDoor
namespace Go.Proofs.YtiigncmpbkfhmaaGreatDoor
open Go Go.RowKit
theorem smsCt_sz (k : Int) (l : List Sm) : smsCt k l ≤ smsSz l := by
 induction l using sms_rec with
 | h l ih =>
  induction l with
  | nil => exact Nat.le_refl _
  | cons y r ih2 =>
   have h1 := ih2 fun s hs => ih s (List.mem_cons_of_mem _ hs)
   obtain ⟨h2, h3⟩ := ih y List.mem_cons_self
   have h5 := sm_ct k y
   have h6 := sm_sz y
   have h7 : (if y.kind = k then 1 else 0) ≤ 1 := by split <;> omega
   simp only [smsCt, smsSz]; omega
theorem en_cantileverref03_count : Enters Tryz.prog 49 := enters_of Tryz.func49 (by kernel_rfl) rfl
set_option maxRecDepth 100000 in
set_option maxHeartbeats 4000000 in
theorem ref_count (kd : Int) (l : List Sm) : ∀ (A : Option Addr) (c : Nat) (w0 : World), SmsAt w0 A l → smsSz l ≤ 1000000 → Calls Tryz.prog 49 #[.slice A l.length c, .int .i64 kd] w0 (Ret w0 (.int .i64 ((smsCt kd l : Nat) : Int))) := by
 induction l using sms_rec
 rename_i l ih
 intro A c w0 hl hsz
 have hln := smsSz_len l
 refine calls_K (args := [.slice A l.length c, .int .i64 kd]) (n := 40) (env := [(0, .slice A l.length c), (1, .int .i64 kd)]) Tryz.func49 rfl rfl rfl ⟨rfl, rfl, trivial⟩ fun a w hK hM => ?_
 refine wp_seq ?_
 refine rg1 (by kernel_rfl) ?_
 refine sP hK 4 (.int .i64 0) (by kernel_rfl) (by kernel_rfl) fun a hK => ?_
 refine rps ?_
 refine wp_seq ?_
 refine rg1 (by kernel_rfl) ?_
 refine sP hK 5 (.int .i64 0) (by kernel_rfl) (by kernel_rfl) fun a hK => ?_
 refine rps ?_
 refine wp_seq ?_
 refine wp_seq ?_
 refine rg1 (by kernel_rfl) ?_
 refine sP hK 6 (.int .i64 0) (by kernel_rfl) (by kernel_rfl) fun a hK => ?_
 refine rps ?_
 refine wp_block ?_
 refine wLX (fun x : Nat × Nat => [(4, .int .i64 0), (0, .slice A l.length c), (1, .int .i64 kd), (6, .int .i64 ((x.1 : Nat) : Int)), (5, .int .i64 ((x.2 : Nat) : Int))]) (fun x : Nat × Nat => []) (fun x : Nat × Nat => x.1 ≤ l.length ∧ x.2 = smsCt kd (l.take x.1)) (fun x : Nat × Nat => l.length - x.1) (0, 0) (hK.sub ⟨rfl, rfl, rfl, rfl, rfl, trivial⟩) hM ⟨Nat.zero_le _, rfl⟩ ?_
 rintro ⟨i, m⟩ a w hK hM hR
 replace hK : Knows a 40 [(4, .int .i64 0), (0, .slice A l.length c), (1, .int .i64 kd), (6, vN i), (5, vN m)] := hK
 replace hM : Mem w0 w [] := hM
 replace hR : i ≤ l.length ∧ m = smsCt kd (l.take i) := hR
 refine wp_seq ?_
 refine wp_seq ?_
 refine rg4 (by kernel_rfl) ?_
 refine sM hK 7 6 (by kernel_rfl) (.inl rfl) rfl fun a hK => ?_
 refine sM hK 8 0 (by kernel_rfl) (.inl rfl) rfl fun a hK => ?_
 refine sP hK 9 (.int .i64 ((l.length : Nat) : Int)) (by kernel_rfl) (by kernel_rfl) fun a hK => ?_
 by_cases h1 : (((i : Nat) : Int) : Int) < ((l.length : Nat) : Int)
 ·refine sP hK 10 (.bool true) (by kernel_rfl) (oB (b := (decide ((((i : Nat) : Int) : Int) < ((l.length : Nat) : Int)))) (by kernel_rfl) (decide_eq_true h1)) fun a hK => ?_
  refine rps ?_
  refine wp_cond_true (hK.get rfl) ?_
  refine wp_skip ?_
  refine wp_seq ?_
  refine wp_block ?_
  refine wp_seq ?_
  refine wp_seq ?_
  refine rg7 (by kernel_rfl) ?_
  refine sM hK 13 0 (by kernel_rfl) (.inl rfl) rfl fun a hK => ?_
  refine sM hK 14 6 (by kernel_rfl) (.inl rfl) rfl fun a hK => ?_
  obtain ⟨t2, ht2⟩ : ∃ t, l[(i : Nat)]? = some t := ⟨_, List.getElem?_eq_getElem (by omega)⟩
  obtain ⟨⟨at2, At2, ct2⟩, et2⟩ := hl _ _ ht2; have nt2 := et2.len
  refine sP hK 15 (.pointer (some (at2.add (i * 7)))) (by kernel_rfl) (rX (k := i) (s := 7) rfl rfl At2 rfl Tryz.underlying38 (by kernel_rfl) (by omega)) fun a hK => ?_
  refine sP hK 16 (.pointer (some (at2.add (i * 7)))) (by kernel_rfl) (by kernel_rfl) fun a hK => ?_
  refine sL hK 17 (.int .i64 t2.kind) (by kernel_rfl) rfl rfl (((ct2.on hM.below)).addZ 1) (by kernel_rfl) fun a hK => ?_
  refine sM hK 18 1 (by kernel_rfl) (.inl rfl) rfl fun a hK => ?_
  by_cases h3 : (t2.kind : Int) = kd
  ·refine sP hK 19 (.bool true) (by kernel_rfl) (oB (b := (decide ((t2.kind : Int) = kd))) (by kernel_rfl) (decide_eq_true h3)) fun a hK => ?_
   refine rps ?_
   refine wp_cond_true (hK.get rfl) ?_
   refine rg3 (by kernel_rfl) ?_
   refine sM hK 20 5 (by kernel_rfl) (.inl rfl) rfl fun a hK => ?_
   refine sP hK 21 (.int .i64 (((m + 1) : Nat) : Int)) (by kernel_rfl) (run_addN (i := m) (j := 1) rfl rfl rfl (by have g1 := smsCt_sz kd (l.take i); have g2 := smsSz_le (l := l) (i := i); have g3 := smsSz_mem (List.mem_of_getElem? ht2); have g4 := sm_sz t2; have g5 := smsCt_sz kd t2.th; have g6 := smsCt_sz kd t2.el; omega)) fun a hK => ?_
   refine sM hK 5 21 (by kernel_rfl) (.inr rfl) rfl fun a hK => ?_
   refine rps ?_
   refine region_made (F := fun w => Mem w0 w []) hK hM [.val (.int .i64 (((m + 1) : Nat) : Int)), .val (.slice A l.length c), .val (vN i), .val (.pointer (some (at2.add (i * 7)))), .val (.pointer (some ((at2.add (i * 7)).add 5))), .val (.slice t2.A2 t2.th.length t2.c2), .val (.int .i64 kd), .val (.int .i64 (((smsCt kd t2.th) : Nat) : Int)), .val (.int .i64 ((((m + 1) + (smsCt kd t2.th)) : Nat) : Int)), .val (.slice A l.length c), .val (vN i), .val (.pointer (some (at2.add (i * 7)))), .val (.pointer (some ((at2.add (i * 7)).add 6))), .val (.slice t2.A3 t2.el.length t2.c3), .val (.int .i64 kd), .val (.int .i64 (((smsCt kd t2.el) : Nat) : Int)), .val (.int .i64 (((((m + 1) + (smsCt kd t2.th)) + (smsCt kd t2.el)) : Nat) : Int)), .val (.int .i64 (((((m + 1) + (smsCt kd t2.th)) + (smsCt kd t2.el)) : Nat) : Int))] 18 (fun _ h => h) (by kernel_rfl) (by kernel_rfl) ⟨⟨⟨⟨⟨⟨⟨⟨⟨⟨⟨⟨⟨⟨⟨⟨⟨⟨trivial, ?_⟩, ?_⟩, ?_⟩, ?_⟩, ?_⟩, ?_⟩, ?_⟩, ?_⟩, ?_⟩, ?_⟩, ?_⟩, ?_⟩, ?_⟩, ?_⟩, ?_⟩, ?_⟩, ?_⟩, ?_⟩ (fun β => [(5, .int .i64 (((((m + 1) + (smsCt kd t2.th)) + (smsCt kd t2.el)) : Nat) : Int)), (19, .bool true), (10, .bool true), (4, .int .i64 0), (0, .slice A l.length c), (1, .int .i64 kd), (6, vN i)]) (fun β => by kernel_rfl) ?_
   ·exact .val (.int .i64 (((m + 1) : Nat) : Int)) rfl (fun β => by kernel_rfl) (fun β w hM => (by kernel_rfl))
   ·exact .val (.slice A l.length c) rfl (fun β => by kernel_rfl) (fun β w hM => (by kernel_rfl))
   ·exact .val (vN i) rfl (fun β => by kernel_rfl) (fun β w hM => (by kernel_rfl))
   ·exact .val (.pointer (some (at2.add (i * 7)))) rfl (fun β => by kernel_rfl) (fun β w hM => (rX (k := i) (s := 7) rfl rfl At2 rfl Tryz.underlying38 (by kernel_rfl) (by omega)))
   ·exact .val (.pointer (some ((at2.add (i * 7)).add 5))) rfl (fun β => by kernel_rfl) (fun β w hM => (by kernel_rfl))
   ·exact .val (.slice t2.A2 t2.th.length t2.c2) rfl (fun β => by kernel_rfl) (fun β w hM => rL rfl rfl (((ct2.on hM.below)).addA 5 1 (by decide)) (by kernel_rfl))
   ·exact .val (.int .i64 kd) rfl (fun β => by kernel_rfl) (fun β w hM => (by kernel_rfl))
   ·exact .call _ #[.slice t2.A2 t2.th.length t2.c2, .int .i64 kd] (.int .i64 (((smsCt kd t2.th) : Nat) : Int)) rfl (fun β => by kernel_rfl) (fun β w => (rC en_cantileverref03_count rfl rfl (by kernel_rfl))) (fun w hM => (ih t2 (List.mem_of_getElem? ht2)).1 _ _ _ (et2.thn.on hM.below) (by have h1 := smsSz_mem (List.mem_of_getElem? ht2); have h2 := sm_sz t2; omega))
   ·exact .val (.int .i64 ((((m + 1) + (smsCt kd t2.th)) : Nat) : Int)) rfl (fun β => by kernel_rfl) (fun β w hM => (run_addN (i := (m + 1)) (j := (smsCt kd t2.th)) rfl rfl rfl (by have g1 := smsCt_sz kd (l.take i); have g2 := smsSz_le (l := l) (i := i); have g3 := smsSz_mem (List.mem_of_getElem? ht2); have g4 := sm_sz t2; have g5 := smsCt_sz kd t2.th; have g6 := smsCt_sz kd t2.el; omega)))
   ·exact .val (.slice A l.length c) rfl (fun β => by kernel_rfl) (fun β w hM => (by kernel_rfl))
   ·exact .val (vN i) rfl (fun β => by kernel_rfl) (fun β w hM => (by kernel_rfl))
   ·exact .val (.pointer (some (at2.add (i * 7)))) rfl (fun β => by kernel_rfl) (fun β w hM => (rX (k := i) (s := 7) rfl rfl At2 rfl Tryz.underlying38 (by kernel_rfl) (by omega)))
   ·exact .val (.pointer (some ((at2.add (i * 7)).add 6))) rfl (fun β => by kernel_rfl) (fun β w hM => (by kernel_rfl))
   ·exact .val (.slice t2.A3 t2.el.length t2.c3) rfl (fun β => by kernel_rfl) (fun β w hM => rL rfl rfl (((ct2.on hM.below)).addA 6 1 (by decide)) (by kernel_rfl))
   ·exact .val (.int .i64 kd) rfl (fun β => by kernel_rfl) (fun β w hM => (by kernel_rfl))
   ·exact .call _ #[.slice t2.A3 t2.el.length t2.c3, .int .i64 kd] (.int .i64 (((smsCt kd t2.el) : Nat) : Int)) rfl (fun β => by kernel_rfl) (fun β w => (rC en_cantileverref03_count rfl rfl (by kernel_rfl))) (fun w hM => (ih t2 (List.mem_of_getElem? ht2)).2 _ _ _ (et2.els.on hM.below) (by have h1 := smsSz_mem (List.mem_of_getElem? ht2); have h2 := sm_sz t2; omega))
   ·exact .val (.int .i64 (((((m + 1) + (smsCt kd t2.th)) + (smsCt kd t2.el)) : Nat) : Int)) rfl (fun β => by kernel_rfl) (fun β w hM => (run_addN (i := ((m + 1) + (smsCt kd t2.th))) (j := (smsCt kd t2.el)) rfl rfl rfl (by have g1 := smsCt_sz kd (l.take i); have g2 := smsSz_le (l := l) (i := i); have g3 := smsSz_mem (List.mem_of_getElem? ht2); have g4 := sm_sz t2; have g5 := smsCt_sz kd t2.th; have g6 := smsCt_sz kd t2.el; omega)))
   ·exact .val (.int .i64 (((((m + 1) + (smsCt kd t2.th)) + (smsCt kd t2.el)) : Nat) : Int)) rfl (fun β => by kernel_rfl) (fun β w hM => (by kernel_rfl))
   intro β4 a w hK hM
   have hK2 := hK; have hM2 := hM; clear hK hM
   have hK : Knows a 40 [(5, .int .i64 (((((m + 1) + (smsCt kd t2.th)) + (smsCt kd t2.el)) : Nat) : Int)), (19, .bool true), (10, .bool true), (4, .int .i64 0), (0, .slice A l.length c), (1, .int .i64 kd), (6, vN i)] := hK2
   have hM := hM2.to [] (by kernel_rfl)
   clear hK2 hM2
   refine rg3 (by kernel_rfl) ?_
   refine sM hK 11 6 (by kernel_rfl) (.inl rfl) rfl fun a hK => ?_
   refine sP hK 12 (.int .i64 (((i + 1) : Nat) : Int)) (by kernel_rfl) (run_addN (i := i) (j := 1) rfl rfl rfl (by omega)) fun a hK => ?_
   refine sM hK 6 12 (by kernel_rfl) (.inr rfl) rfl fun a hK => ?_
   refine rps ?_
   have hRn : (i + 1) ≤ l.length ∧ ((((m + 1) + (smsCt kd t2.th)) + (smsCt kd t2.el))) = smsCt kd (l.take (i + 1)) := ⟨by omega, by have h4 := smsCt_take (k := kd) ht2; have h5 := sm_ct kd t2; rw [if_pos h3] at h5; omega⟩
   have hmn : l.length - (i + 1) < l.length - i := by omega
   exact ⟨(i + 1, (((m + 1) + (smsCt kd t2.th)) + (smsCt kd t2.el))), hK.sub ⟨rfl, rfl, rfl, rfl, rfl, trivial⟩, hM, hRn, hmn⟩
  ·refine sP hK 19 (.bool false) (by kernel_rfl) (oB (b := (decide ((t2.kind : Int) = kd))) (by kernel_rfl) (decide_eq_false h3)) fun a hK => ?_
   refine rps ?_
   refine wp_cond_false (hK.get rfl) ?_
   refine wp_skip ?_
   refine region_made (F := fun w => Mem w0 w []) hK hM [.val (vN m), .val (.slice A l.length c), .val (vN i), .val (.pointer (some (at2.add (i * 7)))), .val (.pointer (some ((at2.add (i * 7)).add 5))), .val (.slice t2.A2 t2.th.length t2.c2), .val (.int .i64 kd), .val (.int .i64 (((smsCt kd t2.th) : Nat) : Int)), .val (.int .i64 (((m + (smsCt kd t2.th)) : Nat) : Int)), .val (.slice A l.length c), .val (vN i), .val (.pointer (some (at2.add (i * 7)))), .val (.pointer (some ((at2.add (i * 7)).add 6))), .val (.slice t2.A3 t2.el.length t2.c3), .val (.int .i64 kd), .val (.int .i64 (((smsCt kd t2.el) : Nat) : Int)), .val (.int .i64 ((((m + (smsCt kd t2.th)) + (smsCt kd t2.el)) : Nat) : Int)), .val (.int .i64 ((((m + (smsCt kd t2.th)) + (smsCt kd t2.el)) : Nat) : Int))] 18 (fun _ h => h) (by kernel_rfl) (by kernel_rfl) ⟨⟨⟨⟨⟨⟨⟨⟨⟨⟨⟨⟨⟨⟨⟨⟨⟨⟨trivial, ?_⟩, ?_⟩, ?_⟩, ?_⟩, ?_⟩, ?_⟩, ?_⟩, ?_⟩, ?_⟩, ?_⟩, ?_⟩, ?_⟩, ?_⟩, ?_⟩, ?_⟩, ?_⟩, ?_⟩, ?_⟩ (fun β => [(5, .int .i64 ((((m + (smsCt kd t2.th)) + (smsCt kd t2.el)) : Nat) : Int)), (19, .bool false), (10, .bool true), (4, .int .i64 0), (0, .slice A l.length c), (1, .int .i64 kd), (6, vN i)]) (fun β => by kernel_rfl) ?_
   ·exact .val (vN m) rfl (fun β => by kernel_rfl) (fun β w hM => (by kernel_rfl))
   ·exact .val (.slice A l.length c) rfl (fun β => by kernel_rfl) (fun β w hM => (by kernel_rfl))
   ·exact .val (vN i) rfl (fun β => by kernel_rfl) (fun β w hM => (by kernel_rfl))
   ·exact .val (.pointer (some (at2.add (i * 7)))) rfl (fun β => by kernel_rfl) (fun β w hM => (rX (k := i) (s := 7) rfl rfl At2 rfl Tryz.underlying38 (by kernel_rfl) (by omega)))
   ·exact .val (.pointer (some ((at2.add (i * 7)).add 5))) rfl (fun β => by kernel_rfl) (fun β w hM => (by kernel_rfl))
   ·exact .val (.slice t2.A2 t2.th.length t2.c2) rfl (fun β => by kernel_rfl) (fun β w hM => rL rfl rfl (((ct2.on hM.below)).addA 5 1 (by decide)) (by kernel_rfl))
   ·exact .val (.int .i64 kd) rfl (fun β => by kernel_rfl) (fun β w hM => (by kernel_rfl))
   ·exact .call _ #[.slice t2.A2 t2.th.length t2.c2, .int .i64 kd] (.int .i64 (((smsCt kd t2.th) : Nat) : Int)) rfl (fun β => by kernel_rfl) (fun β w => (rC en_cantileverref03_count rfl rfl (by kernel_rfl))) (fun w hM => (ih t2 (List.mem_of_getElem? ht2)).1 _ _ _ (et2.thn.on hM.below) (by have h1 := smsSz_mem (List.mem_of_getElem? ht2); have h2 := sm_sz t2; omega))
   ·exact .val (.int .i64 (((m + (smsCt kd t2.th)) : Nat) : Int)) rfl (fun β => by kernel_rfl) (fun β w hM => (run_addN (i := m) (j := (smsCt kd t2.th)) rfl rfl rfl (by have g1 := smsCt_sz kd (l.take i); have g2 := smsSz_le (l := l) (i := i); have g3 := smsSz_mem (List.mem_of_getElem? ht2); have g4 := sm_sz t2; have g5 := smsCt_sz kd t2.th; have g6 := smsCt_sz kd t2.el; omega)))
   ·exact .val (.slice A l.length c) rfl (fun β => by kernel_rfl) (fun β w hM => (by kernel_rfl))
   ·exact .val (vN i) rfl (fun β => by kernel_rfl) (fun β w hM => (by kernel_rfl))
   ·exact .val (.pointer (some (at2.add (i * 7)))) rfl (fun β => by kernel_rfl) (fun β w hM => (rX (k := i) (s := 7) rfl rfl At2 rfl Tryz.underlying38 (by kernel_rfl) (by omega)))
   ·exact .val (.pointer (some ((at2.add (i * 7)).add 6))) rfl (fun β => by kernel_rfl) (fun β w hM => (by kernel_rfl))
   ·exact .val (.slice t2.A3 t2.el.length t2.c3) rfl (fun β => by kernel_rfl) (fun β w hM => rL rfl rfl (((ct2.on hM.below)).addA 6 1 (by decide)) (by kernel_rfl))
   ·exact .val (.int .i64 kd) rfl (fun β => by kernel_rfl) (fun β w hM => (by kernel_rfl))
   ·exact .call _ #[.slice t2.A3 t2.el.length t2.c3, .int .i64 kd] (.int .i64 (((smsCt kd t2.el) : Nat) : Int)) rfl (fun β => by kernel_rfl) (fun β w => (rC en_cantileverref03_count rfl rfl (by kernel_rfl))) (fun w hM => (ih t2 (List.mem_of_getElem? ht2)).2 _ _ _ (et2.els.on hM.below) (by have h1 := smsSz_mem (List.mem_of_getElem? ht2); have h2 := sm_sz t2; omega))
   ·exact .val (.int .i64 ((((m + (smsCt kd t2.th)) + (smsCt kd t2.el)) : Nat) : Int)) rfl (fun β => by kernel_rfl) (fun β w hM => (run_addN (i := (m + (smsCt kd t2.th))) (j := (smsCt kd t2.el)) rfl rfl rfl (by have g1 := smsCt_sz kd (l.take i); have g2 := smsSz_le (l := l) (i := i); have g3 := smsSz_mem (List.mem_of_getElem? ht2); have g4 := sm_sz t2; have g5 := smsCt_sz kd t2.th; have g6 := smsCt_sz kd t2.el; omega)))
   ·exact .val (.int .i64 ((((m + (smsCt kd t2.th)) + (smsCt kd t2.el)) : Nat) : Int)) rfl (fun β => by kernel_rfl) (fun β w hM => (by kernel_rfl))
   intro β5 a w hK hM
   have hK2 := hK; have hM2 := hM; clear hK hM
   have hK : Knows a 40 [(5, .int .i64 ((((m + (smsCt kd t2.th)) + (smsCt kd t2.el)) : Nat) : Int)), (19, .bool false), (10, .bool true), (4, .int .i64 0), (0, .slice A l.length c), (1, .int .i64 kd), (6, vN i)] := hK2
   have hM := hM2.to [] (by kernel_rfl)
   clear hK2 hM2
   refine rg3 (by kernel_rfl) ?_
   refine sM hK 11 6 (by kernel_rfl) (.inl rfl) rfl fun a hK => ?_
   refine sP hK 12 (.int .i64 (((i + 1) : Nat) : Int)) (by kernel_rfl) (run_addN (i := i) (j := 1) rfl rfl rfl (by omega)) fun a hK => ?_
   refine sM hK 6 12 (by kernel_rfl) (.inr rfl) rfl fun a hK => ?_
   refine rps ?_
   have hRn : (i + 1) ≤ l.length ∧ (((m + (smsCt kd t2.th)) + (smsCt kd t2.el))) = smsCt kd (l.take (i + 1)) := ⟨by omega, by have h4 := smsCt_take (k := kd) ht2; have h5 := sm_ct kd t2; rw [if_neg h3] at h5; omega⟩
   have hmn : l.length - (i + 1) < l.length - i := by omega
   exact ⟨(i + 1, ((m + (smsCt kd t2.th)) + (smsCt kd t2.el))), hK.sub ⟨rfl, rfl, rfl, rfl, rfl, trivial⟩, hM, hRn, hmn⟩
 ·refine sP hK 10 (.bool false) (by kernel_rfl) (oB (b := (decide ((((i : Nat) : Int) : Int) < ((l.length : Nat) : Int)))) (by kernel_rfl) (decide_eq_false h1)) fun a hK => ?_
  refine rps ?_
  refine wp_cond_false (hK.get rfl) ?_
  refine wp_exit (exit_then (exit_then (exit_here 0 ?_)))
  refine wp_seq ?_
  refine rg2 (by kernel_rfl) ?_
  refine sM hK 39 5 (by kernel_rfl) (.inl rfl) rfl fun a hK => ?_
  refine sM hK 4 39 (by kernel_rfl) (.inr rfl) rfl fun a hK => ?_
  refine rps ?_
  refine wp_ret ?_
  exact ret_t hK rfl (u := (vN m)) rfl (⟨by rw [hR.2, List.take_of_length_le (by omega)], hM.below⟩)
end Go.Proofs.YtiigncmpbkfhmaaGreatDoor
namespace Go.Proofs.YtiigncmpbkfhmaaGreatDoor
open Go Go.RowKit
set_option maxRecDepth 100000 in
set_option maxHeartbeats 4000000 in
theorem ref_Set (l : List (List UInt8)) : ∀ (A : Option Addr) (c : Nat) (w0 : World), HandAt w0 A (fun x => [Str x]) 1 l → l.length ≤ 1000000 → Calls Tryz.prog 43 #[.slice A l.length c] w0 (GivesT w0 (setL l)) := by
 intro A c w0 hl hln
 refine calls_K (args := [.slice A l.length c]) (n := 60) (env := [(0, .slice A l.length c)]) Tryz.func43 rfl rfl rfl ⟨rfl, trivial⟩ fun a w hK hM => ?_
 refine wp_seq ?_
 refine rg1 (by kernel_rfl) ?_
 refine sP hK 2 (.slice none 0 0) (by kernel_rfl) (by kernel_rfl) fun a hK => ?_
 refine rps ?_
 refine wp_seq ?_
 refine rg1 (by kernel_rfl) ?_
 refine sP hK 3 (.slice none 0 0) (by kernel_rfl) (by kernel_rfl) fun a hK => ?_
 refine rps ?_
 refine wp_seq ?_
 refine wp_seq ?_
 replace hM := hM.cons (it := .own 9 1 (.slice none 0 0) 0 []) (World.ownsRow_nil _ _ _ _) (fun _ _ => .inl rfl)
 refine rg1 (by kernel_rfl) ?_
 refine sP hK 4 (.int .i64 0) (by kernel_rfl) (by kernel_rfl) fun a hK => ?_
 refine rps ?_
 refine wp_block ?_
 have hL9 : ([] : List (List UInt8)) = (setL (l.take 0)) := (by simp [setL])
 replace hM := hM.to ([.own 9 1 (.slice none ((setL (l.take 0))).length 0) ((setL (l.take 0))).length (((setL (l.take 0))).map Str)]) (by rw [← hL9]; rfl)
 replace hK : Knows a 60 [(4, .int .i64 0), (3, .slice none ((setL (l.take 0))).length 0), (2, .slice none 0 0), (0, .slice A l.length c)] := by rw [← hL9]; exact hK.sub ⟨rfl, rfl, rfl, rfl, trivial⟩
 clear hL9
 replace hM := hM
 replace hM := hM.to ([.own 9 1 (.slice none ((setL (l.take 0))).length 0) ((setL (l.take 0))).length (((setL (l.take 0))).map Str)]) (by kernel_rfl)
 refine wLX (fun x : Nat × (Option Addr) × Nat => [(2, .slice none 0 0), (0, .slice A l.length c), (4, .int .i64 ((x.1 : Nat) : Int)), (3, .slice x.2.1 ((setL (l.take x.1))).length x.2.2)]) (fun x : Nat × (Option Addr) × Nat => [.own 9 1 (.slice x.2.1 ((setL (l.take x.1))).length x.2.2) ((setL (l.take x.1))).length (((setL (l.take x.1))).map Str)]) (fun x : Nat × (Option Addr) × Nat => x.1 ≤ l.length) (fun x : Nat × (Option Addr) × Nat => l.length - x.1) (0, none, 0) (hK.sub ⟨rfl, rfl, rfl, rfl, trivial⟩) hM (Nat.zero_le _) ?_
 rintro ⟨i, A1, c1⟩ a w hK hM hR
 replace hK : Knows a 60 [(2, .slice none 0 0), (0, .slice A l.length c), (4, vN i), (3, .slice A1 ((setL (l.take i))).length c1)] := hK
 replace hM : Mem w0 w [.own 9 1 (.slice A1 ((setL (l.take i))).length c1) ((setL (l.take i))).length (((setL (l.take i))).map Str)] := hM
 replace hR : i ≤ l.length := hR
 refine wp_seq ?_
 refine wp_seq ?_
 refine rg4 (by kernel_rfl) ?_
 refine sM hK 6 4 (by kernel_rfl) (.inl rfl) rfl fun a hK => ?_
 refine sM hK 7 0 (by kernel_rfl) (.inl rfl) rfl fun a hK => ?_
 refine sP hK 8 (.int .i64 ((l.length : Nat) : Int)) (by kernel_rfl) (by kernel_rfl) fun a hK => ?_
 by_cases h1 : (((i : Nat) : Int) : Int) < ((l.length : Nat) : Int)
 ·refine sP hK 9 (.bool true) (by kernel_rfl) (oB (b := (decide ((((i : Nat) : Int) : Int) < ((l.length : Nat) : Int)))) (by kernel_rfl) (decide_eq_true h1)) fun a hK => ?_
  refine rps ?_
  refine wp_cond_true (hK.get rfl) ?_
  refine wp_skip ?_
  refine wp_seq ?_
  refine wp_block ?_
  refine wp_seq ?_
  refine rg1 (by kernel_rfl) ?_
  refine sP hK 5 (.int .i64 0) (by kernel_rfl) (by kernel_rfl) fun a hK => ?_
  refine rps ?_
  refine wp_seq ?_
  refine wp_block ?_
  obtain ⟨t2, ht2⟩ : ∃ t, l[(i : Nat)]? = some t := ⟨_, List.getElem?_eq_getElem (by omega)⟩
  obtain ⟨at2, At2, ct2⟩ := hl _ _ ht2
  have hsl := setL_len (l.take i); have hsl2 := List.length_take_le i l
  refine wLX (fun x : Nat => [(9, .bool true), (2, .slice none 0 0), (0, .slice A l.length c), (4, vN i), (3, .slice A1 ((setL (l.take i))).length c1), (5, vN x)]) (fun x : Nat => [.own 9 1 (.slice A1 ((setL (l.take i))).length c1) ((setL (l.take i))).length (((setL (l.take i))).map Str)]) (fun x : Nat => x ≤ (setL (l.take i)).length ∧ ∀ (j : Nat) (y : List UInt8), j < x → (setL (l.take i))[j]? = some y → y < t2) (fun x : Nat => (setL (l.take i)).length - x) 0 (hK.sub ⟨rfl, rfl, rfl, rfl, rfl, rfl, trivial⟩) hM ⟨Nat.zero_le _, fun j y hj => absurd hj (Nat.not_lt_zero _)⟩ ?_
  rintro k a w hK hM hR
  replace hK : Knows a 60 [(9, .bool true), (2, .slice none 0 0), (0, .slice A l.length c), (4, vN i), (3, .slice A1 ((setL (l.take i))).length c1), (5, vN k)] := hK
  replace hM : Mem w0 w [.own 9 1 (.slice A1 ((setL (l.take i))).length c1) ((setL (l.take i))).length (((setL (l.take i))).map Str)] := hM
  replace hR : k ≤ (setL (l.take i)).length ∧ ∀ (j : Nat) (y : List UInt8), j < k → (setL (l.take i))[j]? = some y → y < t2 := hR
  have hS := hR.2
  refine wp_seq ?_
  refine wp_seq ?_
  by_cases h3 : (((k : Nat) : Int) : Int) < ((((setL (l.take i))).length : Nat) : Int)
  ·obtain ⟨t4, ht4⟩ : ∃ t, ((setL (l.take i)))[(k : Nat)]? = some t := ⟨_, List.getElem?_eq_getElem (by omega)⟩
   obtain ⟨a5, A5, -⟩ := own_at (f := Str) (l := (setL (l.take i))) (hM.own 0 rfl) _ _ ht4
   by_cases h6 : t4 < t2
   ·refine rAn (F := fun w => Mem w0 w [.own 9 1 (.slice A1 ((setL (l.take i))).length c1) ((setL (l.take i))).length (((setL (l.take i))).map Str)]) hK [some (vN k), some (.slice A1 ((setL (l.take i))).length c1), some (.int .i64 ((((setL (l.take i))).length : Nat) : Int)), some (.bool true), some (.bool true), some (.slice A1 ((setL (l.take i))).length c1), some (vN k), some (.pointer (some (a5.add (k * 1)))), some (Str t4), some (.slice A l.length c), some (vN i), some (.pointer (some (at2.add (i * 1)))), some (Str t2), some (.bool true), some (.bool true)] 15 (fun _ _ hb hm => hm.go hb) hM (by kernel_rfl) (by kernel_rfl) ⟨⟨⟨⟨⟨⟨⟨⟨⟨⟨⟨⟨⟨⟨⟨trivial, ?_⟩, ?_⟩, ?_⟩, ?_⟩, ?_⟩, ?_⟩, ?_⟩, ?_⟩, ?_⟩, ?_⟩, ?_⟩, ?_⟩, ?_⟩, ?_⟩, ?_⟩ [(26, .bool true), (9, .bool true), (2, .slice none 0 0), (0, .slice A l.length c), (4, vN i), (3, .slice A1 ((setL (l.take i))).length c1), (5, vN k)] (by kernel_rfl) fun a w hK hM => ?_
    ·exact .val (vN k) rfl (by kernel_rfl) (fun w hM => (by kernel_rfl))
    ·exact .val (.slice A1 ((setL (l.take i))).length c1) rfl (by kernel_rfl) (fun w hM => (by kernel_rfl))
    ·exact .val (.int .i64 ((((setL (l.take i))).length : Nat) : Int)) rfl (by kernel_rfl) (fun w hM => (by kernel_rfl))
    ·exact .val (.bool true) rfl (by kernel_rfl) (fun w hM => (oB (b := (decide ((((k : Nat) : Int) : Int) < ((((setL (l.take i))).length : Nat) : Int)))) (by kernel_rfl) (decide_eq_true h3)))
    ·exact .val (.bool true) rfl (by kernel_rfl) (fun w hM => (by kernel_rfl))
    ·exact .val (.slice A1 ((setL (l.take i))).length c1) rfl (by kernel_rfl) (fun w hM => (by kernel_rfl))
    ·exact .val (vN k) rfl (by kernel_rfl) (fun w hM => (by kernel_rfl))
    ·exact .val (.pointer (some (a5.add (k * 1)))) rfl (by kernel_rfl) (fun w hM => (rX (k := k) (s := 1) rfl rfl A5 rfl Tryz.underlying36 (by kernel_rfl) (by omega)))
    ·exact .val (Str t4) rfl (by kernel_rfl) (fun w hM => rL rfl rfl ((own_cell (own_at (f := Str) (l := (setL (l.take i))) (hM.own 0 rfl)) A5 ht4)) (by kernel_rfl))
    ·exact .val (.slice A l.length c) rfl (by kernel_rfl) (fun w hM => (by kernel_rfl))
    ·exact .val (vN i) rfl (by kernel_rfl) (fun w hM => (by kernel_rfl))
    ·exact .val (.pointer (some (at2.add (i * 1)))) rfl (by kernel_rfl) (fun w hM => (rX (k := i) (s := 1) rfl rfl At2 rfl Tryz.underlying36 (by kernel_rfl) (by omega)))
    ·exact .val (Str t2) rfl (by kernel_rfl) (fun w hM => rL rfl rfl ((ct2.on hM.below)) (by kernel_rfl))
    ·exact .val (.bool true) rfl (by kernel_rfl) (fun w hM => (oB (b := (decide (t4 < t2))) (run_ltS rfl rfl rfl) (decide_eq_true h6)))
    ·exact .val (.bool true) rfl (by kernel_rfl) (fun w hM => (by kernel_rfl))
    refine wp_cond_true (hK.get rfl) ?_
    refine wp_skip ?_
    refine wp_block ?_
    refine rg3 (by kernel_rfl) ?_
    refine sM hK 27 5 (by kernel_rfl) (.inl rfl) rfl fun a hK => ?_
    refine sP hK 28 (.int .i64 (((k + 1) : Nat) : Int)) (by kernel_rfl) (run_addN (i := k) (j := 1) rfl rfl rfl (by omega)) fun a hK => ?_
    refine sM hK 5 28 (by kernel_rfl) (.inr rfl) rfl fun a hK => ?_
    refine rps ?_
    have hRn : (k + 1) ≤ (setL (l.take i)).length ∧ ∀ (j : Nat) (y : List UInt8), j < (k + 1) → (setL (l.take i))[j]? = some y → y < t2 := ⟨by omega, fun j y hj hy => (Nat.lt_or_ge j k).elim (fun h8 => hR.2 j y h8 hy) (fun h8 => by obtain rfl : j = k := (by omega); obtain rfl := Option.some.inj (ht4.symm.trans hy); exact of_decide_eq_true (decide_eq_true h6))⟩
    have hmn : (setL (l.take i)).length - (k + 1) < (setL (l.take i)).length - k := by omega
    exact ⟨k + 1, hK.sub ⟨rfl, rfl, rfl, rfl, rfl, rfl, trivial⟩, hM, hRn, hmn⟩
   ·refine rAn (F := fun w => Mem w0 w [.own 9 1 (.slice A1 ((setL (l.take i))).length c1) ((setL (l.take i))).length (((setL (l.take i))).map Str)]) hK [some (vN k), some (.slice A1 ((setL (l.take i))).length c1), some (.int .i64 ((((setL (l.take i))).length : Nat) : Int)), some (.bool true), some (.bool true), some (.slice A1 ((setL (l.take i))).length c1), some (vN k), some (.pointer (some (a5.add (k * 1)))), some (Str t4), some (.slice A l.length c), some (vN i), some (.pointer (some (at2.add (i * 1)))), some (Str t2), some (.bool false), some (.bool false)] 15 (fun _ _ hb hm => hm.go hb) hM (by kernel_rfl) (by kernel_rfl) ⟨⟨⟨⟨⟨⟨⟨⟨⟨⟨⟨⟨⟨⟨⟨trivial, ?_⟩, ?_⟩, ?_⟩, ?_⟩, ?_⟩, ?_⟩, ?_⟩, ?_⟩, ?_⟩, ?_⟩, ?_⟩, ?_⟩, ?_⟩, ?_⟩, ?_⟩ [(26, .bool false), (9, .bool true), (2, .slice none 0 0), (0, .slice A l.length c), (4, vN i), (3, .slice A1 ((setL (l.take i))).length c1), (5, vN k)] (by kernel_rfl) fun a w hK hM => ?_
    ·exact .val (vN k) rfl (by kernel_rfl) (fun w hM => (by kernel_rfl))
    ·exact .val (.slice A1 ((setL (l.take i))).length c1) rfl (by kernel_rfl) (fun w hM => (by kernel_rfl))
    ·exact .val (.int .i64 ((((setL (l.take i))).length : Nat) : Int)) rfl (by kernel_rfl) (fun w hM => (by kernel_rfl))
    ·exact .val (.bool true) rfl (by kernel_rfl) (fun w hM => (oB (b := (decide ((((k : Nat) : Int) : Int) < ((((setL (l.take i))).length : Nat) : Int)))) (by kernel_rfl) (decide_eq_true h3)))
    ·exact .val (.bool true) rfl (by kernel_rfl) (fun w hM => (by kernel_rfl))
    ·exact .val (.slice A1 ((setL (l.take i))).length c1) rfl (by kernel_rfl) (fun w hM => (by kernel_rfl))
    ·exact .val (vN k) rfl (by kernel_rfl) (fun w hM => (by kernel_rfl))
    ·exact .val (.pointer (some (a5.add (k * 1)))) rfl (by kernel_rfl) (fun w hM => (rX (k := k) (s := 1) rfl rfl A5 rfl Tryz.underlying36 (by kernel_rfl) (by omega)))
    ·exact .val (Str t4) rfl (by kernel_rfl) (fun w hM => rL rfl rfl ((own_cell (own_at (f := Str) (l := (setL (l.take i))) (hM.own 0 rfl)) A5 ht4)) (by kernel_rfl))
    ·exact .val (.slice A l.length c) rfl (by kernel_rfl) (fun w hM => (by kernel_rfl))
    ·exact .val (vN i) rfl (by kernel_rfl) (fun w hM => (by kernel_rfl))
    ·exact .val (.pointer (some (at2.add (i * 1)))) rfl (by kernel_rfl) (fun w hM => (rX (k := i) (s := 1) rfl rfl At2 rfl Tryz.underlying36 (by kernel_rfl) (by omega)))
    ·exact .val (Str t2) rfl (by kernel_rfl) (fun w hM => rL rfl rfl ((ct2.on hM.below)) (by kernel_rfl))
    ·exact .val (.bool false) rfl (by kernel_rfl) (fun w hM => (oB (b := (decide (t4 < t2))) (run_ltS rfl rfl rfl) (decide_eq_false h6)))
    ·exact .val (.bool false) rfl (by kernel_rfl) (fun w hM => (by kernel_rfl))
    refine wp_cond_false (hK.get rfl) ?_
    refine wp_exit (exit_then (exit_then (exit_here 2 ?_)))
    refine wp_seq ?_
    refine wp_seq ?_
    by_cases h7 : t4 = t2
    ·refine rAn (F := fun w => Mem w0 w [.own 9 1 (.slice A1 ((setL (l.take i))).length c1) ((setL (l.take i))).length (((setL (l.take i))).map Str)]) hK [some (vN k), some (.slice A1 ((setL (l.take i))).length c1), some (.int .i64 ((((setL (l.take i))).length : Nat) : Int)), some (.bool true), some (.bool true), some (.slice A1 ((setL (l.take i))).length c1), some (vN k), some (.pointer (some (a5.add (k * 1)))), some (Str t4), some (.slice A l.length c), some (vN i), some (.pointer (some (at2.add (i * 1)))), some (Str t2), some (.bool true), some (.bool true)] 15 (fun _ _ hb hm => hm.go hb) hM (by kernel_rfl) (by kernel_rfl) ⟨⟨⟨⟨⟨⟨⟨⟨⟨⟨⟨⟨⟨⟨⟨trivial, ?_⟩, ?_⟩, ?_⟩, ?_⟩, ?_⟩, ?_⟩, ?_⟩, ?_⟩, ?_⟩, ?_⟩, ?_⟩, ?_⟩, ?_⟩, ?_⟩, ?_⟩ [(43, .bool true), (26, .bool false), (9, .bool true), (2, .slice none 0 0), (0, .slice A l.length c), (4, vN i), (3, .slice A1 ((setL (l.take i))).length c1), (5, vN k)] (by kernel_rfl) fun a w hK hM => ?_
     ·exact .val (vN k) rfl (by kernel_rfl) (fun w hM => (by kernel_rfl))
     ·exact .val (.slice A1 ((setL (l.take i))).length c1) rfl (by kernel_rfl) (fun w hM => (by kernel_rfl))
     ·exact .val (.int .i64 ((((setL (l.take i))).length : Nat) : Int)) rfl (by kernel_rfl) (fun w hM => (by kernel_rfl))
     ·exact .val (.bool true) rfl (by kernel_rfl) (fun w hM => (oB (b := (decide ((((k : Nat) : Int) : Int) < ((((setL (l.take i))).length : Nat) : Int)))) (by kernel_rfl) (decide_eq_true h3)))
     ·exact .val (.bool true) rfl (by kernel_rfl) (fun w hM => (by kernel_rfl))
     ·exact .val (.slice A1 ((setL (l.take i))).length c1) rfl (by kernel_rfl) (fun w hM => (by kernel_rfl))
     ·exact .val (vN k) rfl (by kernel_rfl) (fun w hM => (by kernel_rfl))
     ·exact .val (.pointer (some (a5.add (k * 1)))) rfl (by kernel_rfl) (fun w hM => (rX (k := k) (s := 1) rfl rfl A5 rfl Tryz.underlying36 (by kernel_rfl) (by omega)))
     ·exact .val (Str t4) rfl (by kernel_rfl) (fun w hM => rL rfl rfl ((own_cell (own_at (f := Str) (l := (setL (l.take i))) (hM.own 0 rfl)) A5 ht4)) (by kernel_rfl))
     ·exact .val (.slice A l.length c) rfl (by kernel_rfl) (fun w hM => (by kernel_rfl))
     ·exact .val (vN i) rfl (by kernel_rfl) (fun w hM => (by kernel_rfl))
     ·exact .val (.pointer (some (at2.add (i * 1)))) rfl (by kernel_rfl) (fun w hM => (rX (k := i) (s := 1) rfl rfl At2 rfl Tryz.underlying36 (by kernel_rfl) (by omega)))
     ·exact .val (Str t2) rfl (by kernel_rfl) (fun w hM => rL rfl rfl ((ct2.on hM.below)) (by kernel_rfl))
     ·exact .val (.bool true) rfl (by kernel_rfl) (fun w hM => (oB (b := (decide (t4 = t2))) (run_eqS rfl rfl rfl) (decide_eq_true h7)))
     ·exact .val (.bool true) rfl (by kernel_rfl) (fun w hM => (by kernel_rfl))
     refine wp_cond_true (hK.get rfl) ?_
     refine wp_exit (exit_then (exit_here 1 ?_))
     refine rg3 (by kernel_rfl) ?_
     refine sM hK 10 4 (by kernel_rfl) (.inl rfl) rfl fun a hK => ?_
     refine sP hK 11 (.int .i64 (((i + 1) : Nat) : Int)) (by kernel_rfl) (run_addN (i := i) (j := 1) rfl rfl rfl (by omega)) fun a hK => ?_
     refine sM hK 4 11 (by kernel_rfl) (.inr rfl) rfl fun a hK => ?_
     refine rps ?_
     have hL9 : (setL (l.take i)) = (setL (l.take (i + 1))) := (by rw [setL_take ht2, insL_split (k := k) (by omega) hS (fun y hy => by obtain rfl := Option.some.inj (ht4.symm.trans hy); exact of_decide_eq_false (decide_eq_false h6)), if_pos (ht4.trans (congrArg some (of_decide_eq_true (decide_eq_true h7))))])
     rw [hL9] at hM; try rw [hL9] at hK
     clear hL9
     replace hM := hM.to ([.own 9 1 (.slice A1 ((setL (l.take (i + 1)))).length c1) ((setL (l.take (i + 1)))).length (((setL (l.take (i + 1)))).map Str)]) (by kernel_rfl)
     replace hM := hM
     replace hM := hM.to ([.own 9 1 (.slice A1 ((setL (l.take (i + 1)))).length c1) ((setL (l.take (i + 1)))).length (((setL (l.take (i + 1)))).map Str)]) (by kernel_rfl)
     have hRn : (i + 1) ≤ l.length := (by omega)
     have hmn : l.length - (i + 1) < l.length - i := by omega
     exact ⟨(i + 1, A1, c1), hK.sub ⟨rfl, rfl, rfl, rfl, trivial⟩, hM, hRn, hmn⟩
    ·refine rAn (F := fun w => Mem w0 w [.own 9 1 (.slice A1 ((setL (l.take i))).length c1) ((setL (l.take i))).length (((setL (l.take i))).map Str)]) hK [some (vN k), some (.slice A1 ((setL (l.take i))).length c1), some (.int .i64 ((((setL (l.take i))).length : Nat) : Int)), some (.bool true), some (.bool true), some (.slice A1 ((setL (l.take i))).length c1), some (vN k), some (.pointer (some (a5.add (k * 1)))), some (Str t4), some (.slice A l.length c), some (vN i), some (.pointer (some (at2.add (i * 1)))), some (Str t2), some (.bool false), some (.bool false)] 15 (fun _ _ hb hm => hm.go hb) hM (by kernel_rfl) (by kernel_rfl) ⟨⟨⟨⟨⟨⟨⟨⟨⟨⟨⟨⟨⟨⟨⟨trivial, ?_⟩, ?_⟩, ?_⟩, ?_⟩, ?_⟩, ?_⟩, ?_⟩, ?_⟩, ?_⟩, ?_⟩, ?_⟩, ?_⟩, ?_⟩, ?_⟩, ?_⟩ [(43, .bool false), (26, .bool false), (9, .bool true), (2, .slice none 0 0), (0, .slice A l.length c), (4, vN i), (3, .slice A1 ((setL (l.take i))).length c1), (5, vN k)] (by kernel_rfl) fun a w hK hM => ?_
     ·exact .val (vN k) rfl (by kernel_rfl) (fun w hM => (by kernel_rfl))
     ·exact .val (.slice A1 ((setL (l.take i))).length c1) rfl (by kernel_rfl) (fun w hM => (by kernel_rfl))
     ·exact .val (.int .i64 ((((setL (l.take i))).length : Nat) : Int)) rfl (by kernel_rfl) (fun w hM => (by kernel_rfl))
     ·exact .val (.bool true) rfl (by kernel_rfl) (fun w hM => (oB (b := (decide ((((k : Nat) : Int) : Int) < ((((setL (l.take i))).length : Nat) : Int)))) (by kernel_rfl) (decide_eq_true h3)))
     ·exact .val (.bool true) rfl (by kernel_rfl) (fun w hM => (by kernel_rfl))
     ·exact .val (.slice A1 ((setL (l.take i))).length c1) rfl (by kernel_rfl) (fun w hM => (by kernel_rfl))
     ·exact .val (vN k) rfl (by kernel_rfl) (fun w hM => (by kernel_rfl))
     ·exact .val (.pointer (some (a5.add (k * 1)))) rfl (by kernel_rfl) (fun w hM => (rX (k := k) (s := 1) rfl rfl A5 rfl Tryz.underlying36 (by kernel_rfl) (by omega)))
     ·exact .val (Str t4) rfl (by kernel_rfl) (fun w hM => rL rfl rfl ((own_cell (own_at (f := Str) (l := (setL (l.take i))) (hM.own 0 rfl)) A5 ht4)) (by kernel_rfl))
     ·exact .val (.slice A l.length c) rfl (by kernel_rfl) (fun w hM => (by kernel_rfl))
     ·exact .val (vN i) rfl (by kernel_rfl) (fun w hM => (by kernel_rfl))
     ·exact .val (.pointer (some (at2.add (i * 1)))) rfl (by kernel_rfl) (fun w hM => (rX (k := i) (s := 1) rfl rfl At2 rfl Tryz.underlying36 (by kernel_rfl) (by omega)))
     ·exact .val (Str t2) rfl (by kernel_rfl) (fun w hM => rL rfl rfl ((ct2.on hM.below)) (by kernel_rfl))
     ·exact .val (.bool false) rfl (by kernel_rfl) (fun w hM => (oB (b := (decide (t4 = t2))) (run_eqS rfl rfl rfl) (decide_eq_false h7)))
     ·exact .val (.bool false) rfl (by kernel_rfl) (fun w hM => (by kernel_rfl))
     refine wp_cond_false (hK.get rfl) ?_
     refine wp_skip ?_
     refine wp_cut (fun a w => ∃ (A9_10 : Option Addr), ∃ (A9_14 : Option Addr), ∃ (A9_4 : Option Addr), ∃ (b9_0 : Nat), ∃ (b9_9 : Nat), ∃ (c9_10 : Nat), ∃ (c9_14 : Nat), ∃ (c9_4 : Nat), Knows a 60 [(3, .slice A9_14 (((((((setL (l.take i))).drop 0).take (k - 0) : List (List UInt8)) ++ [t2]) ++ (((setL (l.take i))).drop k).take (((setL (l.take i))).length - k))).length c9_14), (43, .bool false), (26, .bool false), (9, .bool true), (2, .slice none 0 0), (0, .slice A l.length c), (4, vN i), (5, vN k)] ∧ Mem w0 w [.row b9_9 9 [Str t2], .own 9 1 (.slice A9_14 (((((((setL (l.take i))).drop 0).take (k - 0) : List (List UInt8)) ++ [t2]) ++ (((setL (l.take i))).drop k).take (((setL (l.take i))).length - k))).length c9_14) (((((((setL (l.take i))).drop 0).take (k - 0) : List (List UInt8)) ++ [t2]) ++ (((setL (l.take i))).drop k).take (((setL (l.take i))).length - k))).length ((((((((setL (l.take i))).drop 0).take (k - 0) : List (List UInt8)) ++ [t2]) ++ (((setL (l.take i))).drop k).take (((setL (l.take i))).length - k))).map Str), .own 9 1 (.slice A1 ((setL (l.take i))).length c1) ((setL (l.take i))).length (((setL (l.take i))).map Str)]) ?_ ?_
     ·refine region_tree hM (by kernel_rfl) 16 (by kernel_rfl) #[false, false, false, false, false, false, false, false, false, false, false, false, false, false, false, false] (by kernel_rfl) ?_
      clear hM; intro w hM
      refine tP hK 1 45 (.slice A1 ((setL (l.take i))).length c1) (by kernel_rfl) (by kernel_rfl) (by kernel_rfl) (fun w => (by kernel_rfl)) #[false, true, false, false, false, false, false, false, false, false, false, false, false, false, false, false] (by kernel_rfl) fun a hK => ?_
      refine tP hK 2 46 (vN k) (by kernel_rfl) (by kernel_rfl) (by kernel_rfl) (fun w => (by kernel_rfl)) #[false, true, true, false, false, false, false, false, false, false, false, false, false, false, false, false] (by kernel_rfl) fun a hK => ?_
      have hcp8 := (own_parts (hM.own 0 rfl)).1
      refine tP hK 3 47 (.slice (if c1 = 0 then A1 else (A1).map (·.add (0 * 1))) (k - 0) (c1 - 0)) (by kernel_rfl) (by kernel_rfl) (by kernel_rfl) (fun w => (run_slcOH (k := k) (s := 1) rfl rfl rfl Tryz.underlying36 (by kernel_rfl) (by omega))) #[false, true, true, true, false, false, false, false, false, false, false, false, false, false, false, false] (by kernel_rfl) fun a hK => ?_
      refine tP hK 5 49 (.slice A l.length c) (by kernel_rfl) (by kernel_rfl) (by kernel_rfl) (fun w => (by kernel_rfl)) #[false, true, true, true, false, true, false, false, false, false, false, false, false, false, false, false] (by kernel_rfl) fun a hK => ?_
      refine tP hK 6 50 (vN i) (by kernel_rfl) (by kernel_rfl) (by kernel_rfl) (fun w => (by kernel_rfl)) #[false, true, true, true, false, true, true, false, false, false, false, false, false, false, false, false] (by kernel_rfl) fun a hK => ?_
      refine tP hK 7 51 (.pointer (some (at2.add (i * 1)))) (by kernel_rfl) (by kernel_rfl) (by kernel_rfl) (fun w => (rX (k := i) (s := 1) rfl rfl At2 rfl Tryz.underlying36 (by kernel_rfl) (by omega))) #[false, true, true, true, false, true, true, true, false, false, false, false, false, false, false, false] (by kernel_rfl) fun a hK => ?_
      refine tP hK 11 55 (.slice A1 ((setL (l.take i))).length c1) (by kernel_rfl) (by kernel_rfl) (by kernel_rfl) (fun w => (by kernel_rfl)) #[false, true, true, true, false, true, true, true, false, false, false, true, false, false, false, false] (by kernel_rfl) fun a hK => ?_
      refine tP hK 12 56 (vN k) (by kernel_rfl) (by kernel_rfl) (by kernel_rfl) (fun w => (by kernel_rfl)) #[false, true, true, true, false, true, true, true, false, false, false, true, true, false, false, false] (by kernel_rfl) fun a hK => ?_
      have hcp9 := (own_parts (hM.own 0 rfl)).1
      refine tP hK 13 57 (.slice (if c1 = k then A1 else (A1).map (·.add (k * 1))) (((setL (l.take i))).length - k) (c1 - k)) (by kernel_rfl) (by kernel_rfl) (by kernel_rfl) (fun w => (run_slcOL (k := k) (s := 1) rfl rfl rfl Tryz.underlying36 (by kernel_rfl) (by omega))) #[false, true, true, true, false, true, true, true, false, false, false, true, true, true, false, false] (by kernel_rfl) fun a hK => ?_
      refine tM [0, 8] (by kernel_rfl) rfl ⟨?_, ?_, trivial⟩
      ·refine sA hK hM 44 9 [] (fun b => .slice (some ⟨b, 0, none⟩) 0 0) (by kernel_rfl) (by kernel_rfl) fun b9_0 a w hK hM => ?_
       refine tX #[true, true, true, true, false, true, true, true, false, false, false, true, true, true, false, false] (by kernel_rfl) ?_
       refine tM [4, 8] (by kernel_rfl) rfl ⟨?_, ?_, trivial⟩
       ·replace hM := hM.rowOwnAt 0 (n := 0) (s := 1) rfl rfl (by decide)
        replace hM := hM.to [.own 9 1 (.slice (some ⟨b9_0, 0, none⟩) 0 0) 0 [], .own 9 1 (.slice A1 ((setL (l.take i))).length c1) ((setL (l.take i))).length (((setL (l.take i))).map Str)] (by kernel_rfl)
        refine stepAppendS hK hM 48 0 (m := (k - 0)) (news := ((((setL (l.take i))).map Str).drop (0 * 1)).take ((k - 0) * 1)) Tryz.underlying36 elem_str (by kernel_rfl) rfl rfl rfl rfl (part_src (hM.own 1 rfl) (Nat.zero_le _) (by omega)) (by simp <;> omega) (all_part (all_one (fun _ => rfl) _) _ _) (by have h1 := setL_len (l.take i); have h2 := List.length_take_le i l; (try simp only [List.length_append, List.length_take, List.length_drop, List.length_cons, List.length_nil]); omega) ?_
        intro v10 a w hK hM
        replace hM := hM.to ([.own 9 1 v10 (((((setL (l.take i))).drop 0).take (k - 0) : List (List UInt8))).length ((((((setL (l.take i))).drop 0).take (k - 0) : List (List UInt8))).map Str), .own 9 1 (.slice A1 ((setL (l.take i))).length c1) ((setL (l.take i))).length (((setL (l.take i))).map Str)]) (by rw [show (((((setL (l.take i))).drop 0).take (k - 0) : List (List UInt8))).length = (0 + (k - 0)) by (simp <;> omega), show ((((((setL (l.take i))).drop 0).take (k - 0) : List (List UInt8))).map Str) = ([] ++ ((((setL (l.take i))).map Str).drop (0 * 1)).take ((k - 0) * 1)) by simp [List.map_drop, List.map_take]]; rfl)
        obtain ⟨A9_4, c9_4, rfl⟩ := own_is (f := Str) (l := ((((setL (l.take i))).drop 0).take (k - 0) : List (List UInt8))) (hM.own 0 rfl)
        refine tX #[true, true, true, true, true, true, true, true, false, false, false, true, true, true, false, false] (by kernel_rfl) ?_
        refine tM [8] (by kernel_rfl) rfl ⟨?_, trivial⟩
        refine sL hK 52 (Str t2) (by kernel_rfl) rfl rfl ((ct2.on hM.below)) (by kernel_rfl) fun a hK => ?_
        refine tX #[true, true, true, true, true, true, true, true, true, false, false, true, true, true, false, false] (by kernel_rfl) ?_
        refine tM [9] (by kernel_rfl) rfl ⟨?_, trivial⟩
        refine sA hK hM 53 9 [Str t2] (fun b => .slice (some ⟨b, 0, none⟩) 1 1) (by kernel_rfl) (by kernel_rfl) fun b9_9 a w hK hM => ?_
        refine tX #[true, true, true, true, true, true, true, true, true, true, false, true, true, true, false, false] (by kernel_rfl) ?_
        refine tM [10] (by kernel_rfl) rfl ⟨?_, trivial⟩
        refine stepAppendS hK hM 54 1 (m := 1) (news := [Str t2]) Tryz.underlying36 elem_str (by kernel_rfl) rfl rfl rfl rfl (row_src (hM.row 0 rfl)) rfl rfl (by have h1 := setL_len (l.take i); have h2 := List.length_take_le i l; (try simp only [List.length_append, List.length_take, List.length_drop, List.length_cons, List.length_nil]); omega) ?_
        intro v11 a w hK hM
        replace hM := hM.to ([.row b9_9 9 [Str t2], .own 9 1 v11 ((((((setL (l.take i))).drop 0).take (k - 0) : List (List UInt8)) ++ [t2])).length (((((((setL (l.take i))).drop 0).take (k - 0) : List (List UInt8)) ++ [t2])).map Str), .own 9 1 (.slice A1 ((setL (l.take i))).length c1) ((setL (l.take i))).length (((setL (l.take i))).map Str)]) (by rw [show ((((((setL (l.take i))).drop 0).take (k - 0) : List (List UInt8)) ++ [t2])).length = ((((((setL (l.take i))).drop 0).take (k - 0) : List (List UInt8))).length + 1) by (simp <;> omega), show (((((((setL (l.take i))).drop 0).take (k - 0) : List (List UInt8)) ++ [t2])).map Str) = (((((((setL (l.take i))).drop 0).take (k - 0) : List (List UInt8))).map Str) ++ [Str t2]) by simp [List.map_drop, List.map_take]]; rfl)
        obtain ⟨A9_10, c9_10, rfl⟩ := own_is (f := Str) (l := (((((setL (l.take i))).drop 0).take (k - 0) : List (List UInt8)) ++ [t2])) (hM.own 1 rfl)
        refine tX #[true, true, true, true, true, true, true, true, true, true, true, true, true, true, false, false] (by kernel_rfl) ?_
        refine tM [14] (by kernel_rfl) rfl ⟨?_, trivial⟩
        refine stepAppendS hK hM 58 1 (m := (((setL (l.take i))).length - k)) (news := ((((setL (l.take i))).map Str).drop (k * 1)).take ((((setL (l.take i))).length - k) * 1)) Tryz.underlying36 elem_str (by kernel_rfl) rfl rfl rfl rfl (part_src (hM.own 2 rfl) (by omega) (Nat.le_refl _)) (by simp <;> omega) (all_part (all_one (fun _ => rfl) _) _ _) (by have h1 := setL_len (l.take i); have h2 := List.length_take_le i l; (try simp only [List.length_append, List.length_take, List.length_drop, List.length_cons, List.length_nil]); omega) ?_
        intro v12 a w hK hM
        replace hM := hM.to ([.row b9_9 9 [Str t2], .own 9 1 v12 (((((((setL (l.take i))).drop 0).take (k - 0) : List (List UInt8)) ++ [t2]) ++ (((setL (l.take i))).drop k).take (((setL (l.take i))).length - k))).length ((((((((setL (l.take i))).drop 0).take (k - 0) : List (List UInt8)) ++ [t2]) ++ (((setL (l.take i))).drop k).take (((setL (l.take i))).length - k))).map Str), .own 9 1 (.slice A1 ((setL (l.take i))).length c1) ((setL (l.take i))).length (((setL (l.take i))).map Str)]) (by rw [show (((((((setL (l.take i))).drop 0).take (k - 0) : List (List UInt8)) ++ [t2]) ++ (((setL (l.take i))).drop k).take (((setL (l.take i))).length - k))).length = (((((((setL (l.take i))).drop 0).take (k - 0) : List (List UInt8)) ++ [t2])).length + (((setL (l.take i))).length - k)) by (simp <;> omega), show ((((((((setL (l.take i))).drop 0).take (k - 0) : List (List UInt8)) ++ [t2]) ++ (((setL (l.take i))).drop k).take (((setL (l.take i))).length - k))).map Str) = ((((((((setL (l.take i))).drop 0).take (k - 0) : List (List UInt8)) ++ [t2])).map Str) ++ ((((setL (l.take i))).map Str).drop (k * 1)).take ((((setL (l.take i))).length - k) * 1)) by simp [List.map_drop, List.map_take]]; rfl)
        obtain ⟨A9_14, c9_14, rfl⟩ := own_is (f := Str) (l := ((((((setL (l.take i))).drop 0).take (k - 0) : List (List UInt8)) ++ [t2]) ++ (((setL (l.take i))).drop k).take (((setL (l.take i))).length - k))) (hM.own 1 rfl)
        refine tX #[true, true, true, true, true, true, true, true, true, true, true, true, true, true, true, false] (by kernel_rfl) ?_
        refine tP hK 15 3 (.slice A9_14 (((((((setL (l.take i))).drop 0).take (k - 0) : List (List UInt8)) ++ [t2]) ++ (((setL (l.take i))).drop k).take (((setL (l.take i))).length - k))).length c9_14) (by kernel_rfl) (by kernel_rfl) (by kernel_rfl) (fun w => (by kernel_rfl)) #[true, true, true, true, true, true, true, true, true, true, true, true, true, true, true, true] (by kernel_rfl) fun a hK => ?_
        exact treeE (by kernel_rfl) ⟨A9_10, A9_14, A9_4, b9_0, b9_9, c9_10, c9_14, c9_4, hK.sub ⟨rfl, rfl, rfl, rfl, rfl, rfl, rfl, rfl, trivial⟩, hM⟩
       ·refine sL hK 52 (Str t2) (by kernel_rfl) rfl rfl ((ct2.on hM.below)) (by kernel_rfl) fun a hK => ?_
        refine tX #[true, true, true, true, false, true, true, true, true, false, false, true, true, true, false, false] (by kernel_rfl) ?_
        refine tM [4, 9] (by kernel_rfl) rfl ⟨?_, ?_, trivial⟩
        ·replace hM := hM.rowOwnAt 0 (n := 0) (s := 1) rfl rfl (by decide)
         replace hM := hM.to [.own 9 1 (.slice (some ⟨b9_0, 0, none⟩) 0 0) 0 [], .own 9 1 (.slice A1 ((setL (l.take i))).length c1) ((setL (l.take i))).length (((setL (l.take i))).map Str)] (by kernel_rfl)
         refine stepAppendS hK hM 48 0 (m := (k - 0)) (news := ((((setL (l.take i))).map Str).drop (0 * 1)).take ((k - 0) * 1)) Tryz.underlying36 elem_str (by kernel_rfl) rfl rfl rfl rfl (part_src (hM.own 1 rfl) (Nat.zero_le _) (by omega)) (by simp <;> omega) (all_part (all_one (fun _ => rfl) _) _ _) (by have h1 := setL_len (l.take i); have h2 := List.length_take_le i l; (try simp only [List.length_append, List.length_take, List.length_drop, List.length_cons, List.length_nil]); omega) ?_
         intro v13 a w hK hM
         replace hM := hM.to ([.own 9 1 v13 (((((setL (l.take i))).drop 0).take (k - 0) : List (List UInt8))).length ((((((setL (l.take i))).drop 0).take (k - 0) : List (List UInt8))).map Str), .own 9 1 (.slice A1 ((setL (l.take i))).length c1) ((setL (l.take i))).length (((setL (l.take i))).map Str)]) (by rw [show (((((setL (l.take i))).drop 0).take (k - 0) : List (List UInt8))).length = (0 + (k - 0)) by (simp <;> omega), show ((((((setL (l.take i))).drop 0).take (k - 0) : List (List UInt8))).map Str) = ([] ++ ((((setL (l.take i))).map Str).drop (0 * 1)).take ((k - 0) * 1)) by simp [List.map_drop, List.map_take]]; rfl)
         obtain ⟨A9_4, c9_4, rfl⟩ := own_is (f := Str) (l := ((((setL (l.take i))).drop 0).take (k - 0) : List (List UInt8))) (hM.own 0 rfl)
         refine tX #[true, true, true, true, true, true, true, true, true, false, false, true, true, true, false, false] (by kernel_rfl) ?_
         refine tM [9] (by kernel_rfl) rfl ⟨?_, trivial⟩
         refine sA hK hM 53 9 [Str t2] (fun b => .slice (some ⟨b, 0, none⟩) 1 1) (by kernel_rfl) (by kernel_rfl) fun b9_9 a w hK hM => ?_
         refine tX #[true, true, true, true, true, true, true, true, true, true, false, true, true, true, false, false] (by kernel_rfl) ?_
         refine tM [10] (by kernel_rfl) rfl ⟨?_, trivial⟩
         refine stepAppendS hK hM 54 1 (m := 1) (news := [Str t2]) Tryz.underlying36 elem_str (by kernel_rfl) rfl rfl rfl rfl (row_src (hM.row 0 rfl)) rfl rfl (by have h1 := setL_len (l.take i); have h2 := List.length_take_le i l; (try simp only [List.length_append, List.length_take, List.length_drop, List.length_cons, List.length_nil]); omega) ?_
         intro v14 a w hK hM
         replace hM := hM.to ([.row b9_9 9 [Str t2], .own 9 1 v14 ((((((setL (l.take i))).drop 0).take (k - 0) : List (List UInt8)) ++ [t2])).length (((((((setL (l.take i))).drop 0).take (k - 0) : List (List UInt8)) ++ [t2])).map Str), .own 9 1 (.slice A1 ((setL (l.take i))).length c1) ((setL (l.take i))).length (((setL (l.take i))).map Str)]) (by rw [show ((((((setL (l.take i))).drop 0).take (k - 0) : List (List UInt8)) ++ [t2])).length = ((((((setL (l.take i))).drop 0).take (k - 0) : List (List UInt8))).length + 1) by (simp <;> omega), show (((((((setL (l.take i))).drop 0).take (k - 0) : List (List UInt8)) ++ [t2])).map Str) = (((((((setL (l.take i))).drop 0).take (k - 0) : List (List UInt8))).map Str) ++ [Str t2]) by simp [List.map_drop, List.map_take]]; rfl)
         obtain ⟨A9_10, c9_10, rfl⟩ := own_is (f := Str) (l := (((((setL (l.take i))).drop 0).take (k - 0) : List (List UInt8)) ++ [t2])) (hM.own 1 rfl)
         refine tX #[true, true, true, true, true, true, true, true, true, true, true, true, true, true, false, false] (by kernel_rfl) ?_
         refine tM [14] (by kernel_rfl) rfl ⟨?_, trivial⟩
         refine stepAppendS hK hM 58 1 (m := (((setL (l.take i))).length - k)) (news := ((((setL (l.take i))).map Str).drop (k * 1)).take ((((setL (l.take i))).length - k) * 1)) Tryz.underlying36 elem_str (by kernel_rfl) rfl rfl rfl rfl (part_src (hM.own 2 rfl) (by omega) (Nat.le_refl _)) (by simp <;> omega) (all_part (all_one (fun _ => rfl) _) _ _) (by have h1 := setL_len (l.take i); have h2 := List.length_take_le i l; (try simp only [List.length_append, List.length_take, List.length_drop, List.length_cons, List.length_nil]); omega) ?_
         intro v15 a w hK hM
         replace hM := hM.to ([.row b9_9 9 [Str t2], .own 9 1 v15 (((((((setL (l.take i))).drop 0).take (k - 0) : List (List UInt8)) ++ [t2]) ++ (((setL (l.take i))).drop k).take (((setL (l.take i))).length - k))).length ((((((((setL (l.take i))).drop 0).take (k - 0) : List (List UInt8)) ++ [t2]) ++ (((setL (l.take i))).drop k).take (((setL (l.take i))).length - k))).map Str), .own 9 1 (.slice A1 ((setL (l.take i))).length c1) ((setL (l.take i))).length (((setL (l.take i))).map Str)]) (by rw [show (((((((setL (l.take i))).drop 0).take (k - 0) : List (List UInt8)) ++ [t2]) ++ (((setL (l.take i))).drop k).take (((setL (l.take i))).length - k))).length = (((((((setL (l.take i))).drop 0).take (k - 0) : List (List UInt8)) ++ [t2])).length + (((setL (l.take i))).length - k)) by (simp <;> omega), show ((((((((setL (l.take i))).drop 0).take (k - 0) : List (List UInt8)) ++ [t2]) ++ (((setL (l.take i))).drop k).take (((setL (l.take i))).length - k))).map Str) = ((((((((setL (l.take i))).drop 0).take (k - 0) : List (List UInt8)) ++ [t2])).map Str) ++ ((((setL (l.take i))).map Str).drop (k * 1)).take ((((setL (l.take i))).length - k) * 1)) by simp [List.map_drop, List.map_take]]; rfl)
         obtain ⟨A9_14, c9_14, rfl⟩ := own_is (f := Str) (l := ((((((setL (l.take i))).drop 0).take (k - 0) : List (List UInt8)) ++ [t2]) ++ (((setL (l.take i))).drop k).take (((setL (l.take i))).length - k))) (hM.own 1 rfl)
         refine tX #[true, true, true, true, true, true, true, true, true, true, true, true, true, true, true, false] (by kernel_rfl) ?_
         refine tP hK 15 3 (.slice A9_14 (((((((setL (l.take i))).drop 0).take (k - 0) : List (List UInt8)) ++ [t2]) ++ (((setL (l.take i))).drop k).take (((setL (l.take i))).length - k))).length c9_14) (by kernel_rfl) (by kernel_rfl) (by kernel_rfl) (fun w => (by kernel_rfl)) #[true, true, true, true, true, true, true, true, true, true, true, true, true, true, true, true] (by kernel_rfl) fun a hK => ?_
         exact treeE (by kernel_rfl) ⟨A9_10, A9_14, A9_4, b9_0, b9_9, c9_10, c9_14, c9_4, hK.sub ⟨rfl, rfl, rfl, rfl, rfl, rfl, rfl, rfl, trivial⟩, hM⟩
        ·refine sA hK hM 53 9 [Str t2] (fun b => .slice (some ⟨b, 0, none⟩) 1 1) (by kernel_rfl) (by kernel_rfl) fun b9_9 a w hK hM => ?_
         refine tX #[true, true, true, true, false, true, true, true, true, true, false, true, true, true, false, false] (by kernel_rfl) ?_
         refine tM [4] (by kernel_rfl) rfl ⟨?_, trivial⟩
         replace hM := hM.rowOwnAt 1 (n := 0) (s := 1) rfl rfl (by decide)
         replace hM := hM.to [.row b9_9 9 [Str t2], .own 9 1 (.slice (some ⟨b9_0, 0, none⟩) 0 0) 0 [], .own 9 1 (.slice A1 ((setL (l.take i))).length c1) ((setL (l.take i))).length (((setL (l.take i))).map Str)] (by kernel_rfl)
         refine stepAppendS hK hM 48 1 (m := (k - 0)) (news := ((((setL (l.take i))).map Str).drop (0 * 1)).take ((k - 0) * 1)) Tryz.underlying36 elem_str (by kernel_rfl) rfl rfl rfl rfl (part_src (hM.own 2 rfl) (Nat.zero_le _) (by omega)) (by simp <;> omega) (all_part (all_one (fun _ => rfl) _) _ _) (by have h1 := setL_len (l.take i); have h2 := List.length_take_le i l; (try simp only [List.length_append, List.length_take, List.length_drop, List.length_cons, List.length_nil]); omega) ?_
         intro v16 a w hK hM
         replace hM := hM.to ([.row b9_9 9 [Str t2], .own 9 1 v16 (((((setL (l.take i))).drop 0).take (k - 0) : List (List UInt8))).length ((((((setL (l.take i))).drop 0).take (k - 0) : List (List UInt8))).map Str), .own 9 1 (.slice A1 ((setL (l.take i))).length c1) ((setL (l.take i))).length (((setL (l.take i))).map Str)]) (by rw [show (((((setL (l.take i))).drop 0).take (k - 0) : List (List UInt8))).length = (0 + (k - 0)) by (simp <;> omega), show ((((((setL (l.take i))).drop 0).take (k - 0) : List (List UInt8))).map Str) = ([] ++ ((((setL (l.take i))).map Str).drop (0 * 1)).take ((k - 0) * 1)) by simp [List.map_drop, List.map_take]]; rfl)
         obtain ⟨A9_4, c9_4, rfl⟩ := own_is (f := Str) (l := ((((setL (l.take i))).drop 0).take (k - 0) : List (List UInt8))) (hM.own 1 rfl)
         refine tX #[true, true, true, true, true, true, true, true, true, true, false, true, true, true, false, false] (by kernel_rfl) ?_
         refine tM [10] (by kernel_rfl) rfl ⟨?_, trivial⟩
         refine stepAppendS hK hM 54 1 (m := 1) (news := [Str t2]) Tryz.underlying36 elem_str (by kernel_rfl) rfl rfl rfl rfl (row_src (hM.row 0 rfl)) rfl rfl (by have h1 := setL_len (l.take i); have h2 := List.length_take_le i l; (try simp only [List.length_append, List.length_take, List.length_drop, List.length_cons, List.length_nil]); omega) ?_
         intro v17 a w hK hM
         replace hM := hM.to ([.row b9_9 9 [Str t2], .own 9 1 v17 ((((((setL (l.take i))).drop 0).take (k - 0) : List (List UInt8)) ++ [t2])).length (((((((setL (l.take i))).drop 0).take (k - 0) : List (List UInt8)) ++ [t2])).map Str), .own 9 1 (.slice A1 ((setL (l.take i))).length c1) ((setL (l.take i))).length (((setL (l.take i))).map Str)]) (by rw [show ((((((setL (l.take i))).drop 0).take (k - 0) : List (List UInt8)) ++ [t2])).length = ((((((setL (l.take i))).drop 0).take (k - 0) : List (List UInt8))).length + 1) by (simp <;> omega), show (((((((setL (l.take i))).drop 0).take (k - 0) : List (List UInt8)) ++ [t2])).map Str) = (((((((setL (l.take i))).drop 0).take (k - 0) : List (List UInt8))).map Str) ++ [Str t2]) by simp [List.map_drop, List.map_take]]; rfl)
         obtain ⟨A9_10, c9_10, rfl⟩ := own_is (f := Str) (l := (((((setL (l.take i))).drop 0).take (k - 0) : List (List UInt8)) ++ [t2])) (hM.own 1 rfl)
         refine tX #[true, true, true, true, true, true, true, true, true, true, true, true, true, true, false, false] (by kernel_rfl) ?_
         refine tM [14] (by kernel_rfl) rfl ⟨?_, trivial⟩
         refine stepAppendS hK hM 58 1 (m := (((setL (l.take i))).length - k)) (news := ((((setL (l.take i))).map Str).drop (k * 1)).take ((((setL (l.take i))).length - k) * 1)) Tryz.underlying36 elem_str (by kernel_rfl) rfl rfl rfl rfl (part_src (hM.own 2 rfl) (by omega) (Nat.le_refl _)) (by simp <;> omega) (all_part (all_one (fun _ => rfl) _) _ _) (by have h1 := setL_len (l.take i); have h2 := List.length_take_le i l; (try simp only [List.length_append, List.length_take, List.length_drop, List.length_cons, List.length_nil]); omega) ?_
         intro v18 a w hK hM
         replace hM := hM.to ([.row b9_9 9 [Str t2], .own 9 1 v18 (((((((setL (l.take i))).drop 0).take (k - 0) : List (List UInt8)) ++ [t2]) ++ (((setL (l.take i))).drop k).take (((setL (l.take i))).length - k))).length ((((((((setL (l.take i))).drop 0).take (k - 0) : List (List UInt8)) ++ [t2]) ++ (((setL (l.take i))).drop k).take (((setL (l.take i))).length - k))).map Str), .own 9 1 (.slice A1 ((setL (l.take i))).length c1) ((setL (l.take i))).length (((setL (l.take i))).map Str)]) (by rw [show (((((((setL (l.take i))).drop 0).take (k - 0) : List (List UInt8)) ++ [t2]) ++ (((setL (l.take i))).drop k).take (((setL (l.take i))).length - k))).length = (((((((setL (l.take i))).drop 0).take (k - 0) : List (List UInt8)) ++ [t2])).length + (((setL (l.take i))).length - k)) by (simp <;> omega), show ((((((((setL (l.take i))).drop 0).take (k - 0) : List (List UInt8)) ++ [t2]) ++ (((setL (l.take i))).drop k).take (((setL (l.take i))).length - k))).map Str) = ((((((((setL (l.take i))).drop 0).take (k - 0) : List (List UInt8)) ++ [t2])).map Str) ++ ((((setL (l.take i))).map Str).drop (k * 1)).take ((((setL (l.take i))).length - k) * 1)) by simp [List.map_drop, List.map_take]]; rfl)
         obtain ⟨A9_14, c9_14, rfl⟩ := own_is (f := Str) (l := ((((((setL (l.take i))).drop 0).take (k - 0) : List (List UInt8)) ++ [t2]) ++ (((setL (l.take i))).drop k).take (((setL (l.take i))).length - k))) (hM.own 1 rfl)
         refine tX #[true, true, true, true, true, true, true, true, true, true, true, true, true, true, true, false] (by kernel_rfl) ?_
         refine tP hK 15 3 (.slice A9_14 (((((((setL (l.take i))).drop 0).take (k - 0) : List (List UInt8)) ++ [t2]) ++ (((setL (l.take i))).drop k).take (((setL (l.take i))).length - k))).length c9_14) (by kernel_rfl) (by kernel_rfl) (by kernel_rfl) (fun w => (by kernel_rfl)) #[true, true, true, true, true, true, true, true, true, true, true, true, true, true, true, true] (by kernel_rfl) fun a hK => ?_
         exact treeE (by kernel_rfl) ⟨A9_10, A9_14, A9_4, b9_0, b9_9, c9_10, c9_14, c9_4, hK.sub ⟨rfl, rfl, rfl, rfl, rfl, rfl, rfl, rfl, trivial⟩, hM⟩
      ·refine sL hK 52 (Str t2) (by kernel_rfl) rfl rfl ((ct2.on hM.below)) (by kernel_rfl) fun a hK => ?_
       refine tX #[false, true, true, true, false, true, true, true, true, false, false, true, true, true, false, false] (by kernel_rfl) ?_
       refine tM [0, 9] (by kernel_rfl) rfl ⟨?_, ?_, trivial⟩
       ·refine sA hK hM 44 9 [] (fun b => .slice (some ⟨b, 0, none⟩) 0 0) (by kernel_rfl) (by kernel_rfl) fun b9_0 a w hK hM => ?_
        refine tX #[true, true, true, true, false, true, true, true, true, false, false, true, true, true, false, false] (by kernel_rfl) ?_
        refine tM [4, 9] (by kernel_rfl) rfl ⟨?_, ?_, trivial⟩
        ·replace hM := hM.rowOwnAt 0 (n := 0) (s := 1) rfl rfl (by decide)
         replace hM := hM.to [.own 9 1 (.slice (some ⟨b9_0, 0, none⟩) 0 0) 0 [], .own 9 1 (.slice A1 ((setL (l.take i))).length c1) ((setL (l.take i))).length (((setL (l.take i))).map Str)] (by kernel_rfl)
         refine stepAppendS hK hM 48 0 (m := (k - 0)) (news := ((((setL (l.take i))).map Str).drop (0 * 1)).take ((k - 0) * 1)) Tryz.underlying36 elem_str (by kernel_rfl) rfl rfl rfl rfl (part_src (hM.own 1 rfl) (Nat.zero_le _) (by omega)) (by simp <;> omega) (all_part (all_one (fun _ => rfl) _) _ _) (by have h1 := setL_len (l.take i); have h2 := List.length_take_le i l; (try simp only [List.length_append, List.length_take, List.length_drop, List.length_cons, List.length_nil]); omega) ?_
         intro v19 a w hK hM
         replace hM := hM.to ([.own 9 1 v19 (((((setL (l.take i))).drop 0).take (k - 0) : List (List UInt8))).length ((((((setL (l.take i))).drop 0).take (k - 0) : List (List UInt8))).map Str), .own 9 1 (.slice A1 ((setL (l.take i))).length c1) ((setL (l.take i))).length (((setL (l.take i))).map Str)]) (by rw [show (((((setL (l.take i))).drop 0).take (k - 0) : List (List UInt8))).length = (0 + (k - 0)) by (simp <;> omega), show ((((((setL (l.take i))).drop 0).take (k - 0) : List (List UInt8))).map Str) = ([] ++ ((((setL (l.take i))).map Str).drop (0 * 1)).take ((k - 0) * 1)) by simp [List.map_drop, List.map_take]]; rfl)
         obtain ⟨A9_4, c9_4, rfl⟩ := own_is (f := Str) (l := ((((setL (l.take i))).drop 0).take (k - 0) : List (List UInt8))) (hM.own 0 rfl)
         refine tX #[true, true, true, true, true, true, true, true, true, false, false, true, true, true, false, false] (by kernel_rfl) ?_
         refine tM [9] (by kernel_rfl) rfl ⟨?_, trivial⟩
         refine sA hK hM 53 9 [Str t2] (fun b => .slice (some ⟨b, 0, none⟩) 1 1) (by kernel_rfl) (by kernel_rfl) fun b9_9 a w hK hM => ?_
         refine tX #[true, true, true, true, true, true, true, true, true, true, false, true, true, true, false, false] (by kernel_rfl) ?_
         refine tM [10] (by kernel_rfl) rfl ⟨?_, trivial⟩
         refine stepAppendS hK hM 54 1 (m := 1) (news := [Str t2]) Tryz.underlying36 elem_str (by kernel_rfl) rfl rfl rfl rfl (row_src (hM.row 0 rfl)) rfl rfl (by have h1 := setL_len (l.take i); have h2 := List.length_take_le i l; (try simp only [List.length_append, List.length_take, List.length_drop, List.length_cons, List.length_nil]); omega) ?_
         intro v20 a w hK hM
         replace hM := hM.to ([.row b9_9 9 [Str t2], .own 9 1 v20 ((((((setL (l.take i))).drop 0).take (k - 0) : List (List UInt8)) ++ [t2])).length (((((((setL (l.take i))).drop 0).take (k - 0) : List (List UInt8)) ++ [t2])).map Str), .own 9 1 (.slice A1 ((setL (l.take i))).length c1) ((setL (l.take i))).length (((setL (l.take i))).map Str)]) (by rw [show ((((((setL (l.take i))).drop 0).take (k - 0) : List (List UInt8)) ++ [t2])).length = ((((((setL (l.take i))).drop 0).take (k - 0) : List (List UInt8))).length + 1) by (simp <;> omega), show (((((((setL (l.take i))).drop 0).take (k - 0) : List (List UInt8)) ++ [t2])).map Str) = (((((((setL (l.take i))).drop 0).take (k - 0) : List (List UInt8))).map Str) ++ [Str t2]) by simp [List.map_drop, List.map_take]]; rfl)
         obtain ⟨A9_10, c9_10, rfl⟩ := own_is (f := Str) (l := (((((setL (l.take i))).drop 0).take (k - 0) : List (List UInt8)) ++ [t2])) (hM.own 1 rfl)
         refine tX #[true, true, true, true, true, true, true, true, true, true, true, true, true, true, false, false] (by kernel_rfl) ?_
         refine tM [14] (by kernel_rfl) rfl ⟨?_, trivial⟩
         refine stepAppendS hK hM 58 1 (m := (((setL (l.take i))).length - k)) (news := ((((setL (l.take i))).map Str).drop (k * 1)).take ((((setL (l.take i))).length - k) * 1)) Tryz.underlying36 elem_str (by kernel_rfl) rfl rfl rfl rfl (part_src (hM.own 2 rfl) (by omega) (Nat.le_refl _)) (by simp <;> omega) (all_part (all_one (fun _ => rfl) _) _ _) (by have h1 := setL_len (l.take i); have h2 := List.length_take_le i l; (try simp only [List.length_append, List.length_take, List.length_drop, List.length_cons, List.length_nil]); omega) ?_
         intro v21 a w hK hM
         replace hM := hM.to ([.row b9_9 9 [Str t2], .own 9 1 v21 (((((((setL (l.take i))).drop 0).take (k - 0) : List (List UInt8)) ++ [t2]) ++ (((setL (l.take i))).drop k).take (((setL (l.take i))).length - k))).length ((((((((setL (l.take i))).drop 0).take (k - 0) : List (List UInt8)) ++ [t2]) ++ (((setL (l.take i))).drop k).take (((setL (l.take i))).length - k))).map Str), .own 9 1 (.slice A1 ((setL (l.take i))).length c1) ((setL (l.take i))).length (((setL (l.take i))).map Str)]) (by rw [show (((((((setL (l.take i))).drop 0).take (k - 0) : List (List UInt8)) ++ [t2]) ++ (((setL (l.take i))).drop k).take (((setL (l.take i))).length - k))).length = (((((((setL (l.take i))).drop 0).take (k - 0) : List (List UInt8)) ++ [t2])).length + (((setL (l.take i))).length - k)) by (simp <;> omega), show ((((((((setL (l.take i))).drop 0).take (k - 0) : List (List UInt8)) ++ [t2]) ++ (((setL (l.take i))).drop k).take (((setL (l.take i))).length - k))).map Str) = ((((((((setL (l.take i))).drop 0).take (k - 0) : List (List UInt8)) ++ [t2])).map Str) ++ ((((setL (l.take i))).map Str).drop (k * 1)).take ((((setL (l.take i))).length - k) * 1)) by simp [List.map_drop, List.map_take]]; rfl)
         obtain ⟨A9_14, c9_14, rfl⟩ := own_is (f := Str) (l := ((((((setL (l.take i))).drop 0).take (k - 0) : List (List UInt8)) ++ [t2]) ++ (((setL (l.take i))).drop k).take (((setL (l.take i))).length - k))) (hM.own 1 rfl)
         refine tX #[true, true, true, true, true, true, true, true, true, true, true, true, true, true, true, false] (by kernel_rfl) ?_
         refine tP hK 15 3 (.slice A9_14 (((((((setL (l.take i))).drop 0).take (k - 0) : List (List UInt8)) ++ [t2]) ++ (((setL (l.take i))).drop k).take (((setL (l.take i))).length - k))).length c9_14) (by kernel_rfl) (by kernel_rfl) (by kernel_rfl) (fun w => (by kernel_rfl)) #[true, true, true, true, true, true, true, true, true, true, true, true, true, true, true, true] (by kernel_rfl) fun a hK => ?_
         exact treeE (by kernel_rfl) ⟨A9_10, A9_14, A9_4, b9_0, b9_9, c9_10, c9_14, c9_4, hK.sub ⟨rfl, rfl, rfl, rfl, rfl, rfl, rfl, rfl, trivial⟩, hM⟩
        ·refine sA hK hM 53 9 [Str t2] (fun b => .slice (some ⟨b, 0, none⟩) 1 1) (by kernel_rfl) (by kernel_rfl) fun b9_9 a w hK hM => ?_
         refine tX #[true, true, true, true, false, true, true, true, true, true, false, true, true, true, false, false] (by kernel_rfl) ?_
         refine tM [4] (by kernel_rfl) rfl ⟨?_, trivial⟩
         replace hM := hM.rowOwnAt 1 (n := 0) (s := 1) rfl rfl (by decide)
         replace hM := hM.to [.row b9_9 9 [Str t2], .own 9 1 (.slice (some ⟨b9_0, 0, none⟩) 0 0) 0 [], .own 9 1 (.slice A1 ((setL (l.take i))).length c1) ((setL (l.take i))).length (((setL (l.take i))).map Str)] (by kernel_rfl)
         refine stepAppendS hK hM 48 1 (m := (k - 0)) (news := ((((setL (l.take i))).map Str).drop (0 * 1)).take ((k - 0) * 1)) Tryz.underlying36 elem_str (by kernel_rfl) rfl rfl rfl rfl (part_src (hM.own 2 rfl) (Nat.zero_le _) (by omega)) (by simp <;> omega) (all_part (all_one (fun _ => rfl) _) _ _) (by have h1 := setL_len (l.take i); have h2 := List.length_take_le i l; (try simp only [List.length_append, List.length_take, List.length_drop, List.length_cons, List.length_nil]); omega) ?_
         intro v22 a w hK hM
         replace hM := hM.to ([.row b9_9 9 [Str t2], .own 9 1 v22 (((((setL (l.take i))).drop 0).take (k - 0) : List (List UInt8))).length ((((((setL (l.take i))).drop 0).take (k - 0) : List (List UInt8))).map Str), .own 9 1 (.slice A1 ((setL (l.take i))).length c1) ((setL (l.take i))).length (((setL (l.take i))).map Str)]) (by rw [show (((((setL (l.take i))).drop 0).take (k - 0) : List (List UInt8))).length = (0 + (k - 0)) by (simp <;> omega), show ((((((setL (l.take i))).drop 0).take (k - 0) : List (List UInt8))).map Str) = ([] ++ ((((setL (l.take i))).map Str).drop (0 * 1)).take ((k - 0) * 1)) by simp [List.map_drop, List.map_take]]; rfl)
         obtain ⟨A9_4, c9_4, rfl⟩ := own_is (f := Str) (l := ((((setL (l.take i))).drop 0).take (k - 0) : List (List UInt8))) (hM.own 1 rfl)
         refine tX #[true, true, true, true, true, true, true, true, true, true, false, true, true, true, false, false] (by kernel_rfl) ?_
         refine tM [10] (by kernel_rfl) rfl ⟨?_, trivial⟩
         refine stepAppendS hK hM 54 1 (m := 1) (news := [Str t2]) Tryz.underlying36 elem_str (by kernel_rfl) rfl rfl rfl rfl (row_src (hM.row 0 rfl)) rfl rfl (by have h1 := setL_len (l.take i); have h2 := List.length_take_le i l; (try simp only [List.length_append, List.length_take, List.length_drop, List.length_cons, List.length_nil]); omega) ?_
         intro v23 a w hK hM
         replace hM := hM.to ([.row b9_9 9 [Str t2], .own 9 1 v23 ((((((setL (l.take i))).drop 0).take (k - 0) : List (List UInt8)) ++ [t2])).length (((((((setL (l.take i))).drop 0).take (k - 0) : List (List UInt8)) ++ [t2])).map Str), .own 9 1 (.slice A1 ((setL (l.take i))).length c1) ((setL (l.take i))).length (((setL (l.take i))).map Str)]) (by rw [show ((((((setL (l.take i))).drop 0).take (k - 0) : List (List UInt8)) ++ [t2])).length = ((((((setL (l.take i))).drop 0).take (k - 0) : List (List UInt8))).length + 1) by (simp <;> omega), show (((((((setL (l.take i))).drop 0).take (k - 0) : List (List UInt8)) ++ [t2])).map Str) = (((((((setL (l.take i))).drop 0).take (k - 0) : List (List UInt8))).map Str) ++ [Str t2]) by simp [List.map_drop, List.map_take]]; rfl)
         obtain ⟨A9_10, c9_10, rfl⟩ := own_is (f := Str) (l := (((((setL (l.take i))).drop 0).take (k - 0) : List (List UInt8)) ++ [t2])) (hM.own 1 rfl)
         refine tX #[true, true, true, true, true, true, true, true, true, true, true, true, true, true, false, false] (by kernel_rfl) ?_
         refine tM [14] (by kernel_rfl) rfl ⟨?_, trivial⟩
         refine stepAppendS hK hM 58 1 (m := (((setL (l.take i))).length - k)) (news := ((((setL (l.take i))).map Str).drop (k * 1)).take ((((setL (l.take i))).length - k) * 1)) Tryz.underlying36 elem_str (by kernel_rfl) rfl rfl rfl rfl (part_src (hM.own 2 rfl) (by omega) (Nat.le_refl _)) (by simp <;> omega) (all_part (all_one (fun _ => rfl) _) _ _) (by have h1 := setL_len (l.take i); have h2 := List.length_take_le i l; (try simp only [List.length_append, List.length_take, List.length_drop, List.length_cons, List.length_nil]); omega) ?_
         intro v24 a w hK hM
         replace hM := hM.to ([.row b9_9 9 [Str t2], .own 9 1 v24 (((((((setL (l.take i))).drop 0).take (k - 0) : List (List UInt8)) ++ [t2]) ++ (((setL (l.take i))).drop k).take (((setL (l.take i))).length - k))).length ((((((((setL (l.take i))).drop 0).take (k - 0) : List (List UInt8)) ++ [t2]) ++ (((setL (l.take i))).drop k).take (((setL (l.take i))).length - k))).map Str), .own 9 1 (.slice A1 ((setL (l.take i))).length c1) ((setL (l.take i))).length (((setL (l.take i))).map Str)]) (by rw [show (((((((setL (l.take i))).drop 0).take (k - 0) : List (List UInt8)) ++ [t2]) ++ (((setL (l.take i))).drop k).take (((setL (l.take i))).length - k))).length = (((((((setL (l.take i))).drop 0).take (k - 0) : List (List UInt8)) ++ [t2])).length + (((setL (l.take i))).length - k)) by (simp <;> omega), show ((((((((setL (l.take i))).drop 0).take (k - 0) : List (List UInt8)) ++ [t2]) ++ (((setL (l.take i))).drop k).take (((setL (l.take i))).length - k))).map Str) = ((((((((setL (l.take i))).drop 0).take (k - 0) : List (List UInt8)) ++ [t2])).map Str) ++ ((((setL (l.take i))).map Str).drop (k * 1)).take ((((setL (l.take i))).length - k) * 1)) by simp [List.map_drop, List.map_take]]; rfl)
         obtain ⟨A9_14, c9_14, rfl⟩ := own_is (f := Str) (l := ((((((setL (l.take i))).drop 0).take (k - 0) : List (List UInt8)) ++ [t2]) ++ (((setL (l.take i))).drop k).take (((setL (l.take i))).length - k))) (hM.own 1 rfl)
         refine tX #[true, true, true, true, true, true, true, true, true, true, true, true, true, true, true, false] (by kernel_rfl) ?_
         refine tP hK 15 3 (.slice A9_14 (((((((setL (l.take i))).drop 0).take (k - 0) : List (List UInt8)) ++ [t2]) ++ (((setL (l.take i))).drop k).take (((setL (l.take i))).length - k))).length c9_14) (by kernel_rfl) (by kernel_rfl) (by kernel_rfl) (fun w => (by kernel_rfl)) #[true, true, true, true, true, true, true, true, true, true, true, true, true, true, true, true] (by kernel_rfl) fun a hK => ?_
         exact treeE (by kernel_rfl) ⟨A9_10, A9_14, A9_4, b9_0, b9_9, c9_10, c9_14, c9_4, hK.sub ⟨rfl, rfl, rfl, rfl, rfl, rfl, rfl, rfl, trivial⟩, hM⟩
       ·refine sA hK hM 53 9 [Str t2] (fun b => .slice (some ⟨b, 0, none⟩) 1 1) (by kernel_rfl) (by kernel_rfl) fun b9_9 a w hK hM => ?_
        refine tX #[false, true, true, true, false, true, true, true, true, true, false, true, true, true, false, false] (by kernel_rfl) ?_
        refine tM [0] (by kernel_rfl) rfl ⟨?_, trivial⟩
        refine sA hK hM 44 9 [] (fun b => .slice (some ⟨b, 0, none⟩) 0 0) (by kernel_rfl) (by kernel_rfl) fun b9_0 a w hK hM => ?_
        refine tX #[true, true, true, true, false, true, true, true, true, true, false, true, true, true, false, false] (by kernel_rfl) ?_
        refine tM [4] (by kernel_rfl) rfl ⟨?_, trivial⟩
        replace hM := hM.rowOwnAt 0 (n := 0) (s := 1) rfl rfl (by decide)
        replace hM := hM.to [.own 9 1 (.slice (some ⟨b9_0, 0, none⟩) 0 0) 0 [], .row b9_9 9 [Str t2], .own 9 1 (.slice A1 ((setL (l.take i))).length c1) ((setL (l.take i))).length (((setL (l.take i))).map Str)] (by kernel_rfl)
        refine stepAppendS hK hM 48 0 (m := (k - 0)) (news := ((((setL (l.take i))).map Str).drop (0 * 1)).take ((k - 0) * 1)) Tryz.underlying36 elem_str (by kernel_rfl) rfl rfl rfl rfl (part_src (hM.own 2 rfl) (Nat.zero_le _) (by omega)) (by simp <;> omega) (all_part (all_one (fun _ => rfl) _) _ _) (by have h1 := setL_len (l.take i); have h2 := List.length_take_le i l; (try simp only [List.length_append, List.length_take, List.length_drop, List.length_cons, List.length_nil]); omega) ?_
        intro v25 a w hK hM
        replace hM := hM.to ([.own 9 1 v25 (((((setL (l.take i))).drop 0).take (k - 0) : List (List UInt8))).length ((((((setL (l.take i))).drop 0).take (k - 0) : List (List UInt8))).map Str), .row b9_9 9 [Str t2], .own 9 1 (.slice A1 ((setL (l.take i))).length c1) ((setL (l.take i))).length (((setL (l.take i))).map Str)]) (by rw [show (((((setL (l.take i))).drop 0).take (k - 0) : List (List UInt8))).length = (0 + (k - 0)) by (simp <;> omega), show ((((((setL (l.take i))).drop 0).take (k - 0) : List (List UInt8))).map Str) = ([] ++ ((((setL (l.take i))).map Str).drop (0 * 1)).take ((k - 0) * 1)) by simp [List.map_drop, List.map_take]]; rfl)
        obtain ⟨A9_4, c9_4, rfl⟩ := own_is (f := Str) (l := ((((setL (l.take i))).drop 0).take (k - 0) : List (List UInt8))) (hM.own 0 rfl)
        refine tX #[true, true, true, true, true, true, true, true, true, true, false, true, true, true, false, false] (by kernel_rfl) ?_
        refine tM [10] (by kernel_rfl) rfl ⟨?_, trivial⟩
        refine stepAppendS hK hM 54 0 (m := 1) (news := [Str t2]) Tryz.underlying36 elem_str (by kernel_rfl) rfl rfl rfl rfl (row_src (hM.row 1 rfl)) rfl rfl (by have h1 := setL_len (l.take i); have h2 := List.length_take_le i l; (try simp only [List.length_append, List.length_take, List.length_drop, List.length_cons, List.length_nil]); omega) ?_
        intro v26 a w hK hM
        replace hM := hM.to ([.own 9 1 v26 ((((((setL (l.take i))).drop 0).take (k - 0) : List (List UInt8)) ++ [t2])).length (((((((setL (l.take i))).drop 0).take (k - 0) : List (List UInt8)) ++ [t2])).map Str), .row b9_9 9 [Str t2], .own 9 1 (.slice A1 ((setL (l.take i))).length c1) ((setL (l.take i))).length (((setL (l.take i))).map Str)]) (by rw [show ((((((setL (l.take i))).drop 0).take (k - 0) : List (List UInt8)) ++ [t2])).length = ((((((setL (l.take i))).drop 0).take (k - 0) : List (List UInt8))).length + 1) by (simp <;> omega), show (((((((setL (l.take i))).drop 0).take (k - 0) : List (List UInt8)) ++ [t2])).map Str) = (((((((setL (l.take i))).drop 0).take (k - 0) : List (List UInt8))).map Str) ++ [Str t2]) by simp [List.map_drop, List.map_take]]; rfl)
        obtain ⟨A9_10, c9_10, rfl⟩ := own_is (f := Str) (l := (((((setL (l.take i))).drop 0).take (k - 0) : List (List UInt8)) ++ [t2])) (hM.own 0 rfl)
        refine tX #[true, true, true, true, true, true, true, true, true, true, true, true, true, true, false, false] (by kernel_rfl) ?_
        refine tM [14] (by kernel_rfl) rfl ⟨?_, trivial⟩
        refine stepAppendS hK hM 58 0 (m := (((setL (l.take i))).length - k)) (news := ((((setL (l.take i))).map Str).drop (k * 1)).take ((((setL (l.take i))).length - k) * 1)) Tryz.underlying36 elem_str (by kernel_rfl) rfl rfl rfl rfl (part_src (hM.own 2 rfl) (by omega) (Nat.le_refl _)) (by simp <;> omega) (all_part (all_one (fun _ => rfl) _) _ _) (by have h1 := setL_len (l.take i); have h2 := List.length_take_le i l; (try simp only [List.length_append, List.length_take, List.length_drop, List.length_cons, List.length_nil]); omega) ?_
        intro v27 a w hK hM
        replace hM := hM.to ([.own 9 1 v27 (((((((setL (l.take i))).drop 0).take (k - 0) : List (List UInt8)) ++ [t2]) ++ (((setL (l.take i))).drop k).take (((setL (l.take i))).length - k))).length ((((((((setL (l.take i))).drop 0).take (k - 0) : List (List UInt8)) ++ [t2]) ++ (((setL (l.take i))).drop k).take (((setL (l.take i))).length - k))).map Str), .row b9_9 9 [Str t2], .own 9 1 (.slice A1 ((setL (l.take i))).length c1) ((setL (l.take i))).length (((setL (l.take i))).map Str)]) (by rw [show (((((((setL (l.take i))).drop 0).take (k - 0) : List (List UInt8)) ++ [t2]) ++ (((setL (l.take i))).drop k).take (((setL (l.take i))).length - k))).length = (((((((setL (l.take i))).drop 0).take (k - 0) : List (List UInt8)) ++ [t2])).length + (((setL (l.take i))).length - k)) by (simp <;> omega), show ((((((((setL (l.take i))).drop 0).take (k - 0) : List (List UInt8)) ++ [t2]) ++ (((setL (l.take i))).drop k).take (((setL (l.take i))).length - k))).map Str) = ((((((((setL (l.take i))).drop 0).take (k - 0) : List (List UInt8)) ++ [t2])).map Str) ++ ((((setL (l.take i))).map Str).drop (k * 1)).take ((((setL (l.take i))).length - k) * 1)) by simp [List.map_drop, List.map_take]]; rfl)
        obtain ⟨A9_14, c9_14, rfl⟩ := own_is (f := Str) (l := ((((((setL (l.take i))).drop 0).take (k - 0) : List (List UInt8)) ++ [t2]) ++ (((setL (l.take i))).drop k).take (((setL (l.take i))).length - k))) (hM.own 0 rfl)
        refine tX #[true, true, true, true, true, true, true, true, true, true, true, true, true, true, true, false] (by kernel_rfl) ?_
        refine tP hK 15 3 (.slice A9_14 (((((((setL (l.take i))).drop 0).take (k - 0) : List (List UInt8)) ++ [t2]) ++ (((setL (l.take i))).drop k).take (((setL (l.take i))).length - k))).length c9_14) (by kernel_rfl) (by kernel_rfl) (by kernel_rfl) (fun w => (by kernel_rfl)) #[true, true, true, true, true, true, true, true, true, true, true, true, true, true, true, true] (by kernel_rfl) fun a hK => ?_
        exact treeE (by kernel_rfl) ⟨A9_10, A9_14, A9_4, b9_0, b9_9, c9_10, c9_14, c9_4, hK.sub ⟨rfl, rfl, rfl, rfl, rfl, rfl, rfl, rfl, trivial⟩, (hM.order [[.own 9 1 (.slice A9_14 (((((((setL (l.take i))).drop 0).take (k - 0) : List (List UInt8)) ++ [t2]) ++ (((setL (l.take i))).drop k).take (((setL (l.take i))).length - k))).length c9_14) (((((((setL (l.take i))).drop 0).take (k - 0) : List (List UInt8)) ++ [t2]) ++ (((setL (l.take i))).drop k).take (((setL (l.take i))).length - k))).length ((((((((setL (l.take i))).drop 0).take (k - 0) : List (List UInt8)) ++ [t2]) ++ (((setL (l.take i))).drop k).take (((setL (l.take i))).length - k))).map Str)], [.row b9_9 9 [Str t2]], [.own 9 1 (.slice A1 ((setL (l.take i))).length c1) ((setL (l.take i))).length (((setL (l.take i))).map Str)]] [1, 0, 2] 3 rfl (by simp) (by decide) _ (by simp))⟩
     rintro a w ⟨A9_10, A9_14, A9_4, b9_0, b9_9, c9_10, c9_14, c9_4, hK, hM⟩
     refine rg3 (by kernel_rfl) ?_
     refine sM hK 10 4 (by kernel_rfl) (.inl rfl) rfl fun a hK => ?_
     refine sP hK 11 (.int .i64 (((i + 1) : Nat) : Int)) (by kernel_rfl) (run_addN (i := i) (j := 1) rfl rfl rfl (by omega)) fun a hK => ?_
     refine sM hK 4 11 (by kernel_rfl) (.inr rfl) rfl fun a hK => ?_
     refine rps ?_
     have hL9 : ((((((setL (l.take i))).drop 0).take (k - 0) : List (List UInt8)) ++ [t2]) ++ (((setL (l.take i))).drop k).take (((setL (l.take i))).length - k)) = (setL (l.take (i + 1))) := (by rw [setL_take ht2, insL_split (k := k) (by omega) hS (fun y hy => by obtain rfl := Option.some.inj (ht4.symm.trans hy); exact of_decide_eq_false (decide_eq_false h6)), if_neg (fun hy => of_decide_eq_false (decide_eq_false h7) (Option.some.inj (ht4.symm.trans hy))), show ((setL (l.take i)).drop k).take ((setL (l.take i)).length - k) = (setL (l.take i)).drop k from List.take_of_length_le (by rw [List.length_drop]; exact Nat.le_refl _)]; simp)
     rw [hL9] at hM; try rw [hL9] at hK
     clear hL9
     replace hM := hM.to ([.row b9_9 9 [Str t2], .own 9 1 (.slice A9_14 ((setL (l.take (i + 1)))).length c9_14) ((setL (l.take (i + 1)))).length (((setL (l.take (i + 1)))).map Str), .own 9 1 (.slice A1 ((setL (l.take i))).length c1) ((setL (l.take i))).length (((setL (l.take i))).map Str)]) (by kernel_rfl)
     replace hM := (hM.order [[.row b9_9 9 [Str t2]], [.own 9 1 (.slice A9_14 ((setL (l.take (i + 1)))).length c9_14) ((setL (l.take (i + 1)))).length (((setL (l.take (i + 1)))).map Str)], [.own 9 1 (.slice A1 ((setL (l.take i))).length c1) ((setL (l.take i))).length (((setL (l.take i))).map Str)]] [0, 2, 1] 3 rfl (by simp) (by decide) ([.row b9_9 9 [Str t2], .own 9 1 (.slice A1 ((setL (l.take i))).length c1) ((setL (l.take i))).length (((setL (l.take i))).map Str), .own 9 1 (.slice A9_14 ((setL (l.take (i + 1)))).length c9_14) ((setL (l.take (i + 1)))).length (((setL (l.take (i + 1)))).map Str)]) (by simp)).drop 2
     replace hM := hM.to ([.own 9 1 (.slice A9_14 ((setL (l.take (i + 1)))).length c9_14) ((setL (l.take (i + 1)))).length (((setL (l.take (i + 1)))).map Str)]) (by kernel_rfl)
     have hRn : (i + 1) ≤ l.length := (by omega)
     have hmn : l.length - (i + 1) < l.length - i := by omega
     exact ⟨(i + 1, A9_14, c9_14), hK.sub ⟨rfl, rfl, rfl, rfl, trivial⟩, hM, hRn, hmn⟩
  ·refine rAn (F := fun w => Mem w0 w [.own 9 1 (.slice A1 ((setL (l.take i))).length c1) ((setL (l.take i))).length (((setL (l.take i))).map Str)]) hK [some (vN k), some (.slice A1 ((setL (l.take i))).length c1), some (.int .i64 ((((setL (l.take i))).length : Nat) : Int)), some (.bool false), some (.bool false), some undef, some undef, some undef, some undef, some undef, some undef, some undef, some undef, some undef, some (.bool false)] 15 (fun _ _ hb hm => hm.go hb) hM (by kernel_rfl) (by kernel_rfl) ⟨⟨⟨⟨⟨⟨⟨⟨⟨⟨⟨⟨⟨⟨⟨trivial, ?_⟩, ?_⟩, ?_⟩, ?_⟩, ?_⟩, ?_⟩, ?_⟩, ?_⟩, ?_⟩, ?_⟩, ?_⟩, ?_⟩, ?_⟩, ?_⟩, ?_⟩ [(26, .bool false), (9, .bool true), (2, .slice none 0 0), (0, .slice A l.length c), (4, vN i), (3, .slice A1 ((setL (l.take i))).length c1), (5, vN k)] (by kernel_rfl) fun a w hK hM => ?_
   ·exact .val (vN k) rfl (by kernel_rfl) (fun w hM => (by kernel_rfl))
   ·exact .val (.slice A1 ((setL (l.take i))).length c1) rfl (by kernel_rfl) (fun w hM => (by kernel_rfl))
   ·exact .val (.int .i64 ((((setL (l.take i))).length : Nat) : Int)) rfl (by kernel_rfl) (fun w hM => (by kernel_rfl))
   ·exact .val (.bool false) rfl (by kernel_rfl) (fun w hM => (oB (b := (decide ((((k : Nat) : Int) : Int) < ((((setL (l.take i))).length : Nat) : Int)))) (by kernel_rfl) (decide_eq_false h3)))
   ·exact .val (.bool false) rfl (by kernel_rfl) (fun w hM => (by kernel_rfl))
   ·exact .skip rfl (by kernel_rfl)
   ·exact .skip rfl (by kernel_rfl)
   ·exact .skip rfl (by kernel_rfl)
   ·exact .skip rfl (by kernel_rfl)
   ·exact .skip rfl (by kernel_rfl)
   ·exact .skip rfl (by kernel_rfl)
   ·exact .skip rfl (by kernel_rfl)
   ·exact .skip rfl (by kernel_rfl)
   ·exact .skip rfl (by kernel_rfl)
   ·exact .val (.bool false) rfl (by kernel_rfl) (fun w hM => (by kernel_rfl))
   refine wp_cond_false (hK.get rfl) ?_
   refine wp_exit (exit_then (exit_then (exit_here 2 ?_)))
   refine wp_seq ?_
   refine wp_seq ?_
   refine rAn (F := fun w => Mem w0 w [.own 9 1 (.slice A1 ((setL (l.take i))).length c1) ((setL (l.take i))).length (((setL (l.take i))).map Str)]) hK [some (vN k), some (.slice A1 ((setL (l.take i))).length c1), some (.int .i64 ((((setL (l.take i))).length : Nat) : Int)), some (.bool false), some (.bool false), some undef, some undef, some undef, some undef, some undef, some undef, some undef, some undef, some undef, some (.bool false)] 15 (fun _ _ hb hm => hm.go hb) hM (by kernel_rfl) (by kernel_rfl) ⟨⟨⟨⟨⟨⟨⟨⟨⟨⟨⟨⟨⟨⟨⟨trivial, ?_⟩, ?_⟩, ?_⟩, ?_⟩, ?_⟩, ?_⟩, ?_⟩, ?_⟩, ?_⟩, ?_⟩, ?_⟩, ?_⟩, ?_⟩, ?_⟩, ?_⟩ [(43, .bool false), (26, .bool false), (9, .bool true), (2, .slice none 0 0), (0, .slice A l.length c), (4, vN i), (3, .slice A1 ((setL (l.take i))).length c1), (5, vN k)] (by kernel_rfl) fun a w hK hM => ?_
   ·exact .val (vN k) rfl (by kernel_rfl) (fun w hM => (by kernel_rfl))
   ·exact .val (.slice A1 ((setL (l.take i))).length c1) rfl (by kernel_rfl) (fun w hM => (by kernel_rfl))
   ·exact .val (.int .i64 ((((setL (l.take i))).length : Nat) : Int)) rfl (by kernel_rfl) (fun w hM => (by kernel_rfl))
   ·exact .val (.bool false) rfl (by kernel_rfl) (fun w hM => (oB (b := (decide ((((k : Nat) : Int) : Int) < ((((setL (l.take i))).length : Nat) : Int)))) (by kernel_rfl) (decide_eq_false h3)))
   ·exact .val (.bool false) rfl (by kernel_rfl) (fun w hM => (by kernel_rfl))
   ·exact .skip rfl (by kernel_rfl)
   ·exact .skip rfl (by kernel_rfl)
   ·exact .skip rfl (by kernel_rfl)
   ·exact .skip rfl (by kernel_rfl)
   ·exact .skip rfl (by kernel_rfl)
   ·exact .skip rfl (by kernel_rfl)
   ·exact .skip rfl (by kernel_rfl)
   ·exact .skip rfl (by kernel_rfl)
   ·exact .skip rfl (by kernel_rfl)
   ·exact .val (.bool false) rfl (by kernel_rfl) (fun w hM => (by kernel_rfl))
   refine wp_cond_false (hK.get rfl) ?_
   refine wp_skip ?_
   refine wp_cut (fun a w => ∃ (A9_10 : Option Addr), ∃ (A9_14 : Option Addr), ∃ (A9_4 : Option Addr), ∃ (b9_0 : Nat), ∃ (b9_9 : Nat), ∃ (c9_10 : Nat), ∃ (c9_14 : Nat), ∃ (c9_4 : Nat), Knows a 60 [(3, .slice A9_14 (((((((setL (l.take i))).drop 0).take (k - 0) : List (List UInt8)) ++ [t2]) ++ (((setL (l.take i))).drop k).take (((setL (l.take i))).length - k))).length c9_14), (43, .bool false), (26, .bool false), (9, .bool true), (2, .slice none 0 0), (0, .slice A l.length c), (4, vN i), (5, vN k)] ∧ Mem w0 w [.row b9_9 9 [Str t2], .own 9 1 (.slice A9_14 (((((((setL (l.take i))).drop 0).take (k - 0) : List (List UInt8)) ++ [t2]) ++ (((setL (l.take i))).drop k).take (((setL (l.take i))).length - k))).length c9_14) (((((((setL (l.take i))).drop 0).take (k - 0) : List (List UInt8)) ++ [t2]) ++ (((setL (l.take i))).drop k).take (((setL (l.take i))).length - k))).length ((((((((setL (l.take i))).drop 0).take (k - 0) : List (List UInt8)) ++ [t2]) ++ (((setL (l.take i))).drop k).take (((setL (l.take i))).length - k))).map Str), .own 9 1 (.slice A1 ((setL (l.take i))).length c1) ((setL (l.take i))).length (((setL (l.take i))).map Str)]) ?_ ?_
   ·refine region_tree hM (by kernel_rfl) 16 (by kernel_rfl) #[false, false, false, false, false, false, false, false, false, false, false, false, false, false, false, false] (by kernel_rfl) ?_
    clear hM; intro w hM
    refine tP hK 1 45 (.slice A1 ((setL (l.take i))).length c1) (by kernel_rfl) (by kernel_rfl) (by kernel_rfl) (fun w => (by kernel_rfl)) #[false, true, false, false, false, false, false, false, false, false, false, false, false, false, false, false] (by kernel_rfl) fun a hK => ?_
    refine tP hK 2 46 (vN k) (by kernel_rfl) (by kernel_rfl) (by kernel_rfl) (fun w => (by kernel_rfl)) #[false, true, true, false, false, false, false, false, false, false, false, false, false, false, false, false] (by kernel_rfl) fun a hK => ?_
    have hcp28 := (own_parts (hM.own 0 rfl)).1
    refine tP hK 3 47 (.slice (if c1 = 0 then A1 else (A1).map (·.add (0 * 1))) (k - 0) (c1 - 0)) (by kernel_rfl) (by kernel_rfl) (by kernel_rfl) (fun w => (run_slcOH (k := k) (s := 1) rfl rfl rfl Tryz.underlying36 (by kernel_rfl) (by omega))) #[false, true, true, true, false, false, false, false, false, false, false, false, false, false, false, false] (by kernel_rfl) fun a hK => ?_
    refine tP hK 5 49 (.slice A l.length c) (by kernel_rfl) (by kernel_rfl) (by kernel_rfl) (fun w => (by kernel_rfl)) #[false, true, true, true, false, true, false, false, false, false, false, false, false, false, false, false] (by kernel_rfl) fun a hK => ?_
    refine tP hK 6 50 (vN i) (by kernel_rfl) (by kernel_rfl) (by kernel_rfl) (fun w => (by kernel_rfl)) #[false, true, true, true, false, true, true, false, false, false, false, false, false, false, false, false] (by kernel_rfl) fun a hK => ?_
    refine tP hK 7 51 (.pointer (some (at2.add (i * 1)))) (by kernel_rfl) (by kernel_rfl) (by kernel_rfl) (fun w => (rX (k := i) (s := 1) rfl rfl At2 rfl Tryz.underlying36 (by kernel_rfl) (by omega))) #[false, true, true, true, false, true, true, true, false, false, false, false, false, false, false, false] (by kernel_rfl) fun a hK => ?_
    refine tP hK 11 55 (.slice A1 ((setL (l.take i))).length c1) (by kernel_rfl) (by kernel_rfl) (by kernel_rfl) (fun w => (by kernel_rfl)) #[false, true, true, true, false, true, true, true, false, false, false, true, false, false, false, false] (by kernel_rfl) fun a hK => ?_
    refine tP hK 12 56 (vN k) (by kernel_rfl) (by kernel_rfl) (by kernel_rfl) (fun w => (by kernel_rfl)) #[false, true, true, true, false, true, true, true, false, false, false, true, true, false, false, false] (by kernel_rfl) fun a hK => ?_
    have hcp29 := (own_parts (hM.own 0 rfl)).1
    refine tP hK 13 57 (.slice (if c1 = k then A1 else (A1).map (·.add (k * 1))) (((setL (l.take i))).length - k) (c1 - k)) (by kernel_rfl) (by kernel_rfl) (by kernel_rfl) (fun w => (run_slcOL (k := k) (s := 1) rfl rfl rfl Tryz.underlying36 (by kernel_rfl) (by omega))) #[false, true, true, true, false, true, true, true, false, false, false, true, true, true, false, false] (by kernel_rfl) fun a hK => ?_
    refine tM [0, 8] (by kernel_rfl) rfl ⟨?_, ?_, trivial⟩
    ·refine sA hK hM 44 9 [] (fun b => .slice (some ⟨b, 0, none⟩) 0 0) (by kernel_rfl) (by kernel_rfl) fun b9_0 a w hK hM => ?_
     refine tX #[true, true, true, true, false, true, true, true, false, false, false, true, true, true, false, false] (by kernel_rfl) ?_
     refine tM [4, 8] (by kernel_rfl) rfl ⟨?_, ?_, trivial⟩
     ·replace hM := hM.rowOwnAt 0 (n := 0) (s := 1) rfl rfl (by decide)
      replace hM := hM.to [.own 9 1 (.slice (some ⟨b9_0, 0, none⟩) 0 0) 0 [], .own 9 1 (.slice A1 ((setL (l.take i))).length c1) ((setL (l.take i))).length (((setL (l.take i))).map Str)] (by kernel_rfl)
      refine stepAppendS hK hM 48 0 (m := (k - 0)) (news := ((((setL (l.take i))).map Str).drop (0 * 1)).take ((k - 0) * 1)) Tryz.underlying36 elem_str (by kernel_rfl) rfl rfl rfl rfl (part_src (hM.own 1 rfl) (Nat.zero_le _) (by omega)) (by simp <;> omega) (all_part (all_one (fun _ => rfl) _) _ _) (by have h1 := setL_len (l.take i); have h2 := List.length_take_le i l; (try simp only [List.length_append, List.length_take, List.length_drop, List.length_cons, List.length_nil]); omega) ?_
      intro v30 a w hK hM
      replace hM := hM.to ([.own 9 1 v30 (((((setL (l.take i))).drop 0).take (k - 0) : List (List UInt8))).length ((((((setL (l.take i))).drop 0).take (k - 0) : List (List UInt8))).map Str), .own 9 1 (.slice A1 ((setL (l.take i))).length c1) ((setL (l.take i))).length (((setL (l.take i))).map Str)]) (by rw [show (((((setL (l.take i))).drop 0).take (k - 0) : List (List UInt8))).length = (0 + (k - 0)) by (simp <;> omega), show ((((((setL (l.take i))).drop 0).take (k - 0) : List (List UInt8))).map Str) = ([] ++ ((((setL (l.take i))).map Str).drop (0 * 1)).take ((k - 0) * 1)) by simp [List.map_drop, List.map_take]]; rfl)
      obtain ⟨A9_4, c9_4, rfl⟩ := own_is (f := Str) (l := ((((setL (l.take i))).drop 0).take (k - 0) : List (List UInt8))) (hM.own 0 rfl)
      refine tX #[true, true, true, true, true, true, true, true, false, false, false, true, true, true, false, false] (by kernel_rfl) ?_
      refine tM [8] (by kernel_rfl) rfl ⟨?_, trivial⟩
      refine sL hK 52 (Str t2) (by kernel_rfl) rfl rfl ((ct2.on hM.below)) (by kernel_rfl) fun a hK => ?_
      refine tX #[true, true, true, true, true, true, true, true, true, false, false, true, true, true, false, false] (by kernel_rfl) ?_
      refine tM [9] (by kernel_rfl) rfl ⟨?_, trivial⟩
      refine sA hK hM 53 9 [Str t2] (fun b => .slice (some ⟨b, 0, none⟩) 1 1) (by kernel_rfl) (by kernel_rfl) fun b9_9 a w hK hM => ?_
      refine tX #[true, true, true, true, true, true, true, true, true, true, false, true, true, true, false, false] (by kernel_rfl) ?_
      refine tM [10] (by kernel_rfl) rfl ⟨?_, trivial⟩
      refine stepAppendS hK hM 54 1 (m := 1) (news := [Str t2]) Tryz.underlying36 elem_str (by kernel_rfl) rfl rfl rfl rfl (row_src (hM.row 0 rfl)) rfl rfl (by have h1 := setL_len (l.take i); have h2 := List.length_take_le i l; (try simp only [List.length_append, List.length_take, List.length_drop, List.length_cons, List.length_nil]); omega) ?_
      intro v31 a w hK hM
      replace hM := hM.to ([.row b9_9 9 [Str t2], .own 9 1 v31 ((((((setL (l.take i))).drop 0).take (k - 0) : List (List UInt8)) ++ [t2])).length (((((((setL (l.take i))).drop 0).take (k - 0) : List (List UInt8)) ++ [t2])).map Str), .own 9 1 (.slice A1 ((setL (l.take i))).length c1) ((setL (l.take i))).length (((setL (l.take i))).map Str)]) (by rw [show ((((((setL (l.take i))).drop 0).take (k - 0) : List (List UInt8)) ++ [t2])).length = ((((((setL (l.take i))).drop 0).take (k - 0) : List (List UInt8))).length + 1) by (simp <;> omega), show (((((((setL (l.take i))).drop 0).take (k - 0) : List (List UInt8)) ++ [t2])).map Str) = (((((((setL (l.take i))).drop 0).take (k - 0) : List (List UInt8))).map Str) ++ [Str t2]) by simp [List.map_drop, List.map_take]]; rfl)
      obtain ⟨A9_10, c9_10, rfl⟩ := own_is (f := Str) (l := (((((setL (l.take i))).drop 0).take (k - 0) : List (List UInt8)) ++ [t2])) (hM.own 1 rfl)
      refine tX #[true, true, true, true, true, true, true, true, true, true, true, true, true, true, false, false] (by kernel_rfl) ?_
      refine tM [14] (by kernel_rfl) rfl ⟨?_, trivial⟩
      refine stepAppendS hK hM 58 1 (m := (((setL (l.take i))).length - k)) (news := ((((setL (l.take i))).map Str).drop (k * 1)).take ((((setL (l.take i))).length - k) * 1)) Tryz.underlying36 elem_str (by kernel_rfl) rfl rfl rfl rfl (part_src (hM.own 2 rfl) (by omega) (Nat.le_refl _)) (by simp <;> omega) (all_part (all_one (fun _ => rfl) _) _ _) (by have h1 := setL_len (l.take i); have h2 := List.length_take_le i l; (try simp only [List.length_append, List.length_take, List.length_drop, List.length_cons, List.length_nil]); omega) ?_
      intro v32 a w hK hM
      replace hM := hM.to ([.row b9_9 9 [Str t2], .own 9 1 v32 (((((((setL (l.take i))).drop 0).take (k - 0) : List (List UInt8)) ++ [t2]) ++ (((setL (l.take i))).drop k).take (((setL (l.take i))).length - k))).length ((((((((setL (l.take i))).drop 0).take (k - 0) : List (List UInt8)) ++ [t2]) ++ (((setL (l.take i))).drop k).take (((setL (l.take i))).length - k))).map Str), .own 9 1 (.slice A1 ((setL (l.take i))).length c1) ((setL (l.take i))).length (((setL (l.take i))).map Str)]) (by rw [show (((((((setL (l.take i))).drop 0).take (k - 0) : List (List UInt8)) ++ [t2]) ++ (((setL (l.take i))).drop k).take (((setL (l.take i))).length - k))).length = (((((((setL (l.take i))).drop 0).take (k - 0) : List (List UInt8)) ++ [t2])).length + (((setL (l.take i))).length - k)) by (simp <;> omega), show ((((((((setL (l.take i))).drop 0).take (k - 0) : List (List UInt8)) ++ [t2]) ++ (((setL (l.take i))).drop k).take (((setL (l.take i))).length - k))).map Str) = ((((((((setL (l.take i))).drop 0).take (k - 0) : List (List UInt8)) ++ [t2])).map Str) ++ ((((setL (l.take i))).map Str).drop (k * 1)).take ((((setL (l.take i))).length - k) * 1)) by simp [List.map_drop, List.map_take]]; rfl)
      obtain ⟨A9_14, c9_14, rfl⟩ := own_is (f := Str) (l := ((((((setL (l.take i))).drop 0).take (k - 0) : List (List UInt8)) ++ [t2]) ++ (((setL (l.take i))).drop k).take (((setL (l.take i))).length - k))) (hM.own 1 rfl)
      refine tX #[true, true, true, true, true, true, true, true, true, true, true, true, true, true, true, false] (by kernel_rfl) ?_
      refine tP hK 15 3 (.slice A9_14 (((((((setL (l.take i))).drop 0).take (k - 0) : List (List UInt8)) ++ [t2]) ++ (((setL (l.take i))).drop k).take (((setL (l.take i))).length - k))).length c9_14) (by kernel_rfl) (by kernel_rfl) (by kernel_rfl) (fun w => (by kernel_rfl)) #[true, true, true, true, true, true, true, true, true, true, true, true, true, true, true, true] (by kernel_rfl) fun a hK => ?_
      exact treeE (by kernel_rfl) ⟨A9_10, A9_14, A9_4, b9_0, b9_9, c9_10, c9_14, c9_4, hK.sub ⟨rfl, rfl, rfl, rfl, rfl, rfl, rfl, rfl, trivial⟩, hM⟩
     ·refine sL hK 52 (Str t2) (by kernel_rfl) rfl rfl ((ct2.on hM.below)) (by kernel_rfl) fun a hK => ?_
      refine tX #[true, true, true, true, false, true, true, true, true, false, false, true, true, true, false, false] (by kernel_rfl) ?_
      refine tM [4, 9] (by kernel_rfl) rfl ⟨?_, ?_, trivial⟩
      ·replace hM := hM.rowOwnAt 0 (n := 0) (s := 1) rfl rfl (by decide)
       replace hM := hM.to [.own 9 1 (.slice (some ⟨b9_0, 0, none⟩) 0 0) 0 [], .own 9 1 (.slice A1 ((setL (l.take i))).length c1) ((setL (l.take i))).length (((setL (l.take i))).map Str)] (by kernel_rfl)
       refine stepAppendS hK hM 48 0 (m := (k - 0)) (news := ((((setL (l.take i))).map Str).drop (0 * 1)).take ((k - 0) * 1)) Tryz.underlying36 elem_str (by kernel_rfl) rfl rfl rfl rfl (part_src (hM.own 1 rfl) (Nat.zero_le _) (by omega)) (by simp <;> omega) (all_part (all_one (fun _ => rfl) _) _ _) (by have h1 := setL_len (l.take i); have h2 := List.length_take_le i l; (try simp only [List.length_append, List.length_take, List.length_drop, List.length_cons, List.length_nil]); omega) ?_
       intro v33 a w hK hM
       replace hM := hM.to ([.own 9 1 v33 (((((setL (l.take i))).drop 0).take (k - 0) : List (List UInt8))).length ((((((setL (l.take i))).drop 0).take (k - 0) : List (List UInt8))).map Str), .own 9 1 (.slice A1 ((setL (l.take i))).length c1) ((setL (l.take i))).length (((setL (l.take i))).map Str)]) (by rw [show (((((setL (l.take i))).drop 0).take (k - 0) : List (List UInt8))).length = (0 + (k - 0)) by (simp <;> omega), show ((((((setL (l.take i))).drop 0).take (k - 0) : List (List UInt8))).map Str) = ([] ++ ((((setL (l.take i))).map Str).drop (0 * 1)).take ((k - 0) * 1)) by simp [List.map_drop, List.map_take]]; rfl)
       obtain ⟨A9_4, c9_4, rfl⟩ := own_is (f := Str) (l := ((((setL (l.take i))).drop 0).take (k - 0) : List (List UInt8))) (hM.own 0 rfl)
       refine tX #[true, true, true, true, true, true, true, true, true, false, false, true, true, true, false, false] (by kernel_rfl) ?_
       refine tM [9] (by kernel_rfl) rfl ⟨?_, trivial⟩
       refine sA hK hM 53 9 [Str t2] (fun b => .slice (some ⟨b, 0, none⟩) 1 1) (by kernel_rfl) (by kernel_rfl) fun b9_9 a w hK hM => ?_
       refine tX #[true, true, true, true, true, true, true, true, true, true, false, true, true, true, false, false] (by kernel_rfl) ?_
       refine tM [10] (by kernel_rfl) rfl ⟨?_, trivial⟩
       refine stepAppendS hK hM 54 1 (m := 1) (news := [Str t2]) Tryz.underlying36 elem_str (by kernel_rfl) rfl rfl rfl rfl (row_src (hM.row 0 rfl)) rfl rfl (by have h1 := setL_len (l.take i); have h2 := List.length_take_le i l; (try simp only [List.length_append, List.length_take, List.length_drop, List.length_cons, List.length_nil]); omega) ?_
       intro v34 a w hK hM
       replace hM := hM.to ([.row b9_9 9 [Str t2], .own 9 1 v34 ((((((setL (l.take i))).drop 0).take (k - 0) : List (List UInt8)) ++ [t2])).length (((((((setL (l.take i))).drop 0).take (k - 0) : List (List UInt8)) ++ [t2])).map Str), .own 9 1 (.slice A1 ((setL (l.take i))).length c1) ((setL (l.take i))).length (((setL (l.take i))).map Str)]) (by rw [show ((((((setL (l.take i))).drop 0).take (k - 0) : List (List UInt8)) ++ [t2])).length = ((((((setL (l.take i))).drop 0).take (k - 0) : List (List UInt8))).length + 1) by (simp <;> omega), show (((((((setL (l.take i))).drop 0).take (k - 0) : List (List UInt8)) ++ [t2])).map Str) = (((((((setL (l.take i))).drop 0).take (k - 0) : List (List UInt8))).map Str) ++ [Str t2]) by simp [List.map_drop, List.map_take]]; rfl)
       obtain ⟨A9_10, c9_10, rfl⟩ := own_is (f := Str) (l := (((((setL (l.take i))).drop 0).take (k - 0) : List (List UInt8)) ++ [t2])) (hM.own 1 rfl)
       refine tX #[true, true, true, true, true, true, true, true, true, true, true, true, true, true, false, false] (by kernel_rfl) ?_
       refine tM [14] (by kernel_rfl) rfl ⟨?_, trivial⟩
       refine stepAppendS hK hM 58 1 (m := (((setL (l.take i))).length - k)) (news := ((((setL (l.take i))).map Str).drop (k * 1)).take ((((setL (l.take i))).length - k) * 1)) Tryz.underlying36 elem_str (by kernel_rfl) rfl rfl rfl rfl (part_src (hM.own 2 rfl) (by omega) (Nat.le_refl _)) (by simp <;> omega) (all_part (all_one (fun _ => rfl) _) _ _) (by have h1 := setL_len (l.take i); have h2 := List.length_take_le i l; (try simp only [List.length_append, List.length_take, List.length_drop, List.length_cons, List.length_nil]); omega) ?_
       intro v35 a w hK hM
       replace hM := hM.to ([.row b9_9 9 [Str t2], .own 9 1 v35 (((((((setL (l.take i))).drop 0).take (k - 0) : List (List UInt8)) ++ [t2]) ++ (((setL (l.take i))).drop k).take (((setL (l.take i))).length - k))).length ((((((((setL (l.take i))).drop 0).take (k - 0) : List (List UInt8)) ++ [t2]) ++ (((setL (l.take i))).drop k).take (((setL (l.take i))).length - k))).map Str), .own 9 1 (.slice A1 ((setL (l.take i))).length c1) ((setL (l.take i))).length (((setL (l.take i))).map Str)]) (by rw [show (((((((setL (l.take i))).drop 0).take (k - 0) : List (List UInt8)) ++ [t2]) ++ (((setL (l.take i))).drop k).take (((setL (l.take i))).length - k))).length = (((((((setL (l.take i))).drop 0).take (k - 0) : List (List UInt8)) ++ [t2])).length + (((setL (l.take i))).length - k)) by (simp <;> omega), show ((((((((setL (l.take i))).drop 0).take (k - 0) : List (List UInt8)) ++ [t2]) ++ (((setL (l.take i))).drop k).take (((setL (l.take i))).length - k))).map Str) = ((((((((setL (l.take i))).drop 0).take (k - 0) : List (List UInt8)) ++ [t2])).map Str) ++ ((((setL (l.take i))).map Str).drop (k * 1)).take ((((setL (l.take i))).length - k) * 1)) by simp [List.map_drop, List.map_take]]; rfl)
       obtain ⟨A9_14, c9_14, rfl⟩ := own_is (f := Str) (l := ((((((setL (l.take i))).drop 0).take (k - 0) : List (List UInt8)) ++ [t2]) ++ (((setL (l.take i))).drop k).take (((setL (l.take i))).length - k))) (hM.own 1 rfl)
       refine tX #[true, true, true, true, true, true, true, true, true, true, true, true, true, true, true, false] (by kernel_rfl) ?_
       refine tP hK 15 3 (.slice A9_14 (((((((setL (l.take i))).drop 0).take (k - 0) : List (List UInt8)) ++ [t2]) ++ (((setL (l.take i))).drop k).take (((setL (l.take i))).length - k))).length c9_14) (by kernel_rfl) (by kernel_rfl) (by kernel_rfl) (fun w => (by kernel_rfl)) #[true, true, true, true, true, true, true, true, true, true, true, true, true, true, true, true] (by kernel_rfl) fun a hK => ?_
       exact treeE (by kernel_rfl) ⟨A9_10, A9_14, A9_4, b9_0, b9_9, c9_10, c9_14, c9_4, hK.sub ⟨rfl, rfl, rfl, rfl, rfl, rfl, rfl, rfl, trivial⟩, hM⟩
      ·refine sA hK hM 53 9 [Str t2] (fun b => .slice (some ⟨b, 0, none⟩) 1 1) (by kernel_rfl) (by kernel_rfl) fun b9_9 a w hK hM => ?_
       refine tX #[true, true, true, true, false, true, true, true, true, true, false, true, true, true, false, false] (by kernel_rfl) ?_
       refine tM [4] (by kernel_rfl) rfl ⟨?_, trivial⟩
       replace hM := hM.rowOwnAt 1 (n := 0) (s := 1) rfl rfl (by decide)
       replace hM := hM.to [.row b9_9 9 [Str t2], .own 9 1 (.slice (some ⟨b9_0, 0, none⟩) 0 0) 0 [], .own 9 1 (.slice A1 ((setL (l.take i))).length c1) ((setL (l.take i))).length (((setL (l.take i))).map Str)] (by kernel_rfl)
       refine stepAppendS hK hM 48 1 (m := (k - 0)) (news := ((((setL (l.take i))).map Str).drop (0 * 1)).take ((k - 0) * 1)) Tryz.underlying36 elem_str (by kernel_rfl) rfl rfl rfl rfl (part_src (hM.own 2 rfl) (Nat.zero_le _) (by omega)) (by simp <;> omega) (all_part (all_one (fun _ => rfl) _) _ _) (by have h1 := setL_len (l.take i); have h2 := List.length_take_le i l; (try simp only [List.length_append, List.length_take, List.length_drop, List.length_cons, List.length_nil]); omega) ?_
       intro v36 a w hK hM
       replace hM := hM.to ([.row b9_9 9 [Str t2], .own 9 1 v36 (((((setL (l.take i))).drop 0).take (k - 0) : List (List UInt8))).length ((((((setL (l.take i))).drop 0).take (k - 0) : List (List UInt8))).map Str), .own 9 1 (.slice A1 ((setL (l.take i))).length c1) ((setL (l.take i))).length (((setL (l.take i))).map Str)]) (by rw [show (((((setL (l.take i))).drop 0).take (k - 0) : List (List UInt8))).length = (0 + (k - 0)) by (simp <;> omega), show ((((((setL (l.take i))).drop 0).take (k - 0) : List (List UInt8))).map Str) = ([] ++ ((((setL (l.take i))).map Str).drop (0 * 1)).take ((k - 0) * 1)) by simp [List.map_drop, List.map_take]]; rfl)
       obtain ⟨A9_4, c9_4, rfl⟩ := own_is (f := Str) (l := ((((setL (l.take i))).drop 0).take (k - 0) : List (List UInt8))) (hM.own 1 rfl)
       refine tX #[true, true, true, true, true, true, true, true, true, true, false, true, true, true, false, false] (by kernel_rfl) ?_
       refine tM [10] (by kernel_rfl) rfl ⟨?_, trivial⟩
       refine stepAppendS hK hM 54 1 (m := 1) (news := [Str t2]) Tryz.underlying36 elem_str (by kernel_rfl) rfl rfl rfl rfl (row_src (hM.row 0 rfl)) rfl rfl (by have h1 := setL_len (l.take i); have h2 := List.length_take_le i l; (try simp only [List.length_append, List.length_take, List.length_drop, List.length_cons, List.length_nil]); omega) ?_
       intro v37 a w hK hM
       replace hM := hM.to ([.row b9_9 9 [Str t2], .own 9 1 v37 ((((((setL (l.take i))).drop 0).take (k - 0) : List (List UInt8)) ++ [t2])).length (((((((setL (l.take i))).drop 0).take (k - 0) : List (List UInt8)) ++ [t2])).map Str), .own 9 1 (.slice A1 ((setL (l.take i))).length c1) ((setL (l.take i))).length (((setL (l.take i))).map Str)]) (by rw [show ((((((setL (l.take i))).drop 0).take (k - 0) : List (List UInt8)) ++ [t2])).length = ((((((setL (l.take i))).drop 0).take (k - 0) : List (List UInt8))).length + 1) by (simp <;> omega), show (((((((setL (l.take i))).drop 0).take (k - 0) : List (List UInt8)) ++ [t2])).map Str) = (((((((setL (l.take i))).drop 0).take (k - 0) : List (List UInt8))).map Str) ++ [Str t2]) by simp [List.map_drop, List.map_take]]; rfl)
       obtain ⟨A9_10, c9_10, rfl⟩ := own_is (f := Str) (l := (((((setL (l.take i))).drop 0).take (k - 0) : List (List UInt8)) ++ [t2])) (hM.own 1 rfl)
       refine tX #[true, true, true, true, true, true, true, true, true, true, true, true, true, true, false, false] (by kernel_rfl) ?_
       refine tM [14] (by kernel_rfl) rfl ⟨?_, trivial⟩
       refine stepAppendS hK hM 58 1 (m := (((setL (l.take i))).length - k)) (news := ((((setL (l.take i))).map Str).drop (k * 1)).take ((((setL (l.take i))).length - k) * 1)) Tryz.underlying36 elem_str (by kernel_rfl) rfl rfl rfl rfl (part_src (hM.own 2 rfl) (by omega) (Nat.le_refl _)) (by simp <;> omega) (all_part (all_one (fun _ => rfl) _) _ _) (by have h1 := setL_len (l.take i); have h2 := List.length_take_le i l; (try simp only [List.length_append, List.length_take, List.length_drop, List.length_cons, List.length_nil]); omega) ?_
       intro v38 a w hK hM
       replace hM := hM.to ([.row b9_9 9 [Str t2], .own 9 1 v38 (((((((setL (l.take i))).drop 0).take (k - 0) : List (List UInt8)) ++ [t2]) ++ (((setL (l.take i))).drop k).take (((setL (l.take i))).length - k))).length ((((((((setL (l.take i))).drop 0).take (k - 0) : List (List UInt8)) ++ [t2]) ++ (((setL (l.take i))).drop k).take (((setL (l.take i))).length - k))).map Str), .own 9 1 (.slice A1 ((setL (l.take i))).length c1) ((setL (l.take i))).length (((setL (l.take i))).map Str)]) (by rw [show (((((((setL (l.take i))).drop 0).take (k - 0) : List (List UInt8)) ++ [t2]) ++ (((setL (l.take i))).drop k).take (((setL (l.take i))).length - k))).length = (((((((setL (l.take i))).drop 0).take (k - 0) : List (List UInt8)) ++ [t2])).length + (((setL (l.take i))).length - k)) by (simp <;> omega), show ((((((((setL (l.take i))).drop 0).take (k - 0) : List (List UInt8)) ++ [t2]) ++ (((setL (l.take i))).drop k).take (((setL (l.take i))).length - k))).map Str) = ((((((((setL (l.take i))).drop 0).take (k - 0) : List (List UInt8)) ++ [t2])).map Str) ++ ((((setL (l.take i))).map Str).drop (k * 1)).take ((((setL (l.take i))).length - k) * 1)) by simp [List.map_drop, List.map_take]]; rfl)
       obtain ⟨A9_14, c9_14, rfl⟩ := own_is (f := Str) (l := ((((((setL (l.take i))).drop 0).take (k - 0) : List (List UInt8)) ++ [t2]) ++ (((setL (l.take i))).drop k).take (((setL (l.take i))).length - k))) (hM.own 1 rfl)
       refine tX #[true, true, true, true, true, true, true, true, true, true, true, true, true, true, true, false] (by kernel_rfl) ?_
       refine tP hK 15 3 (.slice A9_14 (((((((setL (l.take i))).drop 0).take (k - 0) : List (List UInt8)) ++ [t2]) ++ (((setL (l.take i))).drop k).take (((setL (l.take i))).length - k))).length c9_14) (by kernel_rfl) (by kernel_rfl) (by kernel_rfl) (fun w => (by kernel_rfl)) #[true, true, true, true, true, true, true, true, true, true, true, true, true, true, true, true] (by kernel_rfl) fun a hK => ?_
       exact treeE (by kernel_rfl) ⟨A9_10, A9_14, A9_4, b9_0, b9_9, c9_10, c9_14, c9_4, hK.sub ⟨rfl, rfl, rfl, rfl, rfl, rfl, rfl, rfl, trivial⟩, hM⟩
    ·refine sL hK 52 (Str t2) (by kernel_rfl) rfl rfl ((ct2.on hM.below)) (by kernel_rfl) fun a hK => ?_
     refine tX #[false, true, true, true, false, true, true, true, true, false, false, true, true, true, false, false] (by kernel_rfl) ?_
     refine tM [0, 9] (by kernel_rfl) rfl ⟨?_, ?_, trivial⟩
     ·refine sA hK hM 44 9 [] (fun b => .slice (some ⟨b, 0, none⟩) 0 0) (by kernel_rfl) (by kernel_rfl) fun b9_0 a w hK hM => ?_
      refine tX #[true, true, true, true, false, true, true, true, true, false, false, true, true, true, false, false] (by kernel_rfl) ?_
      refine tM [4, 9] (by kernel_rfl) rfl ⟨?_, ?_, trivial⟩
      ·replace hM := hM.rowOwnAt 0 (n := 0) (s := 1) rfl rfl (by decide)
       replace hM := hM.to [.own 9 1 (.slice (some ⟨b9_0, 0, none⟩) 0 0) 0 [], .own 9 1 (.slice A1 ((setL (l.take i))).length c1) ((setL (l.take i))).length (((setL (l.take i))).map Str)] (by kernel_rfl)
       refine stepAppendS hK hM 48 0 (m := (k - 0)) (news := ((((setL (l.take i))).map Str).drop (0 * 1)).take ((k - 0) * 1)) Tryz.underlying36 elem_str (by kernel_rfl) rfl rfl rfl rfl (part_src (hM.own 1 rfl) (Nat.zero_le _) (by omega)) (by simp <;> omega) (all_part (all_one (fun _ => rfl) _) _ _) (by have h1 := setL_len (l.take i); have h2 := List.length_take_le i l; (try simp only [List.length_append, List.length_take, List.length_drop, List.length_cons, List.length_nil]); omega) ?_
       intro v39 a w hK hM
       replace hM := hM.to ([.own 9 1 v39 (((((setL (l.take i))).drop 0).take (k - 0) : List (List UInt8))).length ((((((setL (l.take i))).drop 0).take (k - 0) : List (List UInt8))).map Str), .own 9 1 (.slice A1 ((setL (l.take i))).length c1) ((setL (l.take i))).length (((setL (l.take i))).map Str)]) (by rw [show (((((setL (l.take i))).drop 0).take (k - 0) : List (List UInt8))).length = (0 + (k - 0)) by (simp <;> omega), show ((((((setL (l.take i))).drop 0).take (k - 0) : List (List UInt8))).map Str) = ([] ++ ((((setL (l.take i))).map Str).drop (0 * 1)).take ((k - 0) * 1)) by simp [List.map_drop, List.map_take]]; rfl)
       obtain ⟨A9_4, c9_4, rfl⟩ := own_is (f := Str) (l := ((((setL (l.take i))).drop 0).take (k - 0) : List (List UInt8))) (hM.own 0 rfl)
       refine tX #[true, true, true, true, true, true, true, true, true, false, false, true, true, true, false, false] (by kernel_rfl) ?_
       refine tM [9] (by kernel_rfl) rfl ⟨?_, trivial⟩
       refine sA hK hM 53 9 [Str t2] (fun b => .slice (some ⟨b, 0, none⟩) 1 1) (by kernel_rfl) (by kernel_rfl) fun b9_9 a w hK hM => ?_
       refine tX #[true, true, true, true, true, true, true, true, true, true, false, true, true, true, false, false] (by kernel_rfl) ?_
       refine tM [10] (by kernel_rfl) rfl ⟨?_, trivial⟩
       refine stepAppendS hK hM 54 1 (m := 1) (news := [Str t2]) Tryz.underlying36 elem_str (by kernel_rfl) rfl rfl rfl rfl (row_src (hM.row 0 rfl)) rfl rfl (by have h1 := setL_len (l.take i); have h2 := List.length_take_le i l; (try simp only [List.length_append, List.length_take, List.length_drop, List.length_cons, List.length_nil]); omega) ?_
       intro v40 a w hK hM
       replace hM := hM.to ([.row b9_9 9 [Str t2], .own 9 1 v40 ((((((setL (l.take i))).drop 0).take (k - 0) : List (List UInt8)) ++ [t2])).length (((((((setL (l.take i))).drop 0).take (k - 0) : List (List UInt8)) ++ [t2])).map Str), .own 9 1 (.slice A1 ((setL (l.take i))).length c1) ((setL (l.take i))).length (((setL (l.take i))).map Str)]) (by rw [show ((((((setL (l.take i))).drop 0).take (k - 0) : List (List UInt8)) ++ [t2])).length = ((((((setL (l.take i))).drop 0).take (k - 0) : List (List UInt8))).length + 1) by (simp <;> omega), show (((((((setL (l.take i))).drop 0).take (k - 0) : List (List UInt8)) ++ [t2])).map Str) = (((((((setL (l.take i))).drop 0).take (k - 0) : List (List UInt8))).map Str) ++ [Str t2]) by simp [List.map_drop, List.map_take]]; rfl)
       obtain ⟨A9_10, c9_10, rfl⟩ := own_is (f := Str) (l := (((((setL (l.take i))).drop 0).take (k - 0) : List (List UInt8)) ++ [t2])) (hM.own 1 rfl)
       refine tX #[true, true, true, true, true, true, true, true, true, true, true, true, true, true, false, false] (by kernel_rfl) ?_
       refine tM [14] (by kernel_rfl) rfl ⟨?_, trivial⟩
       refine stepAppendS hK hM 58 1 (m := (((setL (l.take i))).length - k)) (news := ((((setL (l.take i))).map Str).drop (k * 1)).take ((((setL (l.take i))).length - k) * 1)) Tryz.underlying36 elem_str (by kernel_rfl) rfl rfl rfl rfl (part_src (hM.own 2 rfl) (by omega) (Nat.le_refl _)) (by simp <;> omega) (all_part (all_one (fun _ => rfl) _) _ _) (by have h1 := setL_len (l.take i); have h2 := List.length_take_le i l; (try simp only [List.length_append, List.length_take, List.length_drop, List.length_cons, List.length_nil]); omega) ?_
       intro v41 a w hK hM
       replace hM := hM.to ([.row b9_9 9 [Str t2], .own 9 1 v41 (((((((setL (l.take i))).drop 0).take (k - 0) : List (List UInt8)) ++ [t2]) ++ (((setL (l.take i))).drop k).take (((setL (l.take i))).length - k))).length ((((((((setL (l.take i))).drop 0).take (k - 0) : List (List UInt8)) ++ [t2]) ++ (((setL (l.take i))).drop k).take (((setL (l.take i))).length - k))).map Str), .own 9 1 (.slice A1 ((setL (l.take i))).length c1) ((setL (l.take i))).length (((setL (l.take i))).map Str)]) (by rw [show (((((((setL (l.take i))).drop 0).take (k - 0) : List (List UInt8)) ++ [t2]) ++ (((setL (l.take i))).drop k).take (((setL (l.take i))).length - k))).length = (((((((setL (l.take i))).drop 0).take (k - 0) : List (List UInt8)) ++ [t2])).length + (((setL (l.take i))).length - k)) by (simp <;> omega), show ((((((((setL (l.take i))).drop 0).take (k - 0) : List (List UInt8)) ++ [t2]) ++ (((setL (l.take i))).drop k).take (((setL (l.take i))).length - k))).map Str) = ((((((((setL (l.take i))).drop 0).take (k - 0) : List (List UInt8)) ++ [t2])).map Str) ++ ((((setL (l.take i))).map Str).drop (k * 1)).take ((((setL (l.take i))).length - k) * 1)) by simp [List.map_drop, List.map_take]]; rfl)
       obtain ⟨A9_14, c9_14, rfl⟩ := own_is (f := Str) (l := ((((((setL (l.take i))).drop 0).take (k - 0) : List (List UInt8)) ++ [t2]) ++ (((setL (l.take i))).drop k).take (((setL (l.take i))).length - k))) (hM.own 1 rfl)
       refine tX #[true, true, true, true, true, true, true, true, true, true, true, true, true, true, true, false] (by kernel_rfl) ?_
       refine tP hK 15 3 (.slice A9_14 (((((((setL (l.take i))).drop 0).take (k - 0) : List (List UInt8)) ++ [t2]) ++ (((setL (l.take i))).drop k).take (((setL (l.take i))).length - k))).length c9_14) (by kernel_rfl) (by kernel_rfl) (by kernel_rfl) (fun w => (by kernel_rfl)) #[true, true, true, true, true, true, true, true, true, true, true, true, true, true, true, true] (by kernel_rfl) fun a hK => ?_
       exact treeE (by kernel_rfl) ⟨A9_10, A9_14, A9_4, b9_0, b9_9, c9_10, c9_14, c9_4, hK.sub ⟨rfl, rfl, rfl, rfl, rfl, rfl, rfl, rfl, trivial⟩, hM⟩
      ·refine sA hK hM 53 9 [Str t2] (fun b => .slice (some ⟨b, 0, none⟩) 1 1) (by kernel_rfl) (by kernel_rfl) fun b9_9 a w hK hM => ?_
       refine tX #[true, true, true, true, false, true, true, true, true, true, false, true, true, true, false, false] (by kernel_rfl) ?_
       refine tM [4] (by kernel_rfl) rfl ⟨?_, trivial⟩
       replace hM := hM.rowOwnAt 1 (n := 0) (s := 1) rfl rfl (by decide)
       replace hM := hM.to [.row b9_9 9 [Str t2], .own 9 1 (.slice (some ⟨b9_0, 0, none⟩) 0 0) 0 [], .own 9 1 (.slice A1 ((setL (l.take i))).length c1) ((setL (l.take i))).length (((setL (l.take i))).map Str)] (by kernel_rfl)
       refine stepAppendS hK hM 48 1 (m := (k - 0)) (news := ((((setL (l.take i))).map Str).drop (0 * 1)).take ((k - 0) * 1)) Tryz.underlying36 elem_str (by kernel_rfl) rfl rfl rfl rfl (part_src (hM.own 2 rfl) (Nat.zero_le _) (by omega)) (by simp <;> omega) (all_part (all_one (fun _ => rfl) _) _ _) (by have h1 := setL_len (l.take i); have h2 := List.length_take_le i l; (try simp only [List.length_append, List.length_take, List.length_drop, List.length_cons, List.length_nil]); omega) ?_
       intro v42 a w hK hM
       replace hM := hM.to ([.row b9_9 9 [Str t2], .own 9 1 v42 (((((setL (l.take i))).drop 0).take (k - 0) : List (List UInt8))).length ((((((setL (l.take i))).drop 0).take (k - 0) : List (List UInt8))).map Str), .own 9 1 (.slice A1 ((setL (l.take i))).length c1) ((setL (l.take i))).length (((setL (l.take i))).map Str)]) (by rw [show (((((setL (l.take i))).drop 0).take (k - 0) : List (List UInt8))).length = (0 + (k - 0)) by (simp <;> omega), show ((((((setL (l.take i))).drop 0).take (k - 0) : List (List UInt8))).map Str) = ([] ++ ((((setL (l.take i))).map Str).drop (0 * 1)).take ((k - 0) * 1)) by simp [List.map_drop, List.map_take]]; rfl)
       obtain ⟨A9_4, c9_4, rfl⟩ := own_is (f := Str) (l := ((((setL (l.take i))).drop 0).take (k - 0) : List (List UInt8))) (hM.own 1 rfl)
       refine tX #[true, true, true, true, true, true, true, true, true, true, false, true, true, true, false, false] (by kernel_rfl) ?_
       refine tM [10] (by kernel_rfl) rfl ⟨?_, trivial⟩
       refine stepAppendS hK hM 54 1 (m := 1) (news := [Str t2]) Tryz.underlying36 elem_str (by kernel_rfl) rfl rfl rfl rfl (row_src (hM.row 0 rfl)) rfl rfl (by have h1 := setL_len (l.take i); have h2 := List.length_take_le i l; (try simp only [List.length_append, List.length_take, List.length_drop, List.length_cons, List.length_nil]); omega) ?_
       intro v43 a w hK hM
       replace hM := hM.to ([.row b9_9 9 [Str t2], .own 9 1 v43 ((((((setL (l.take i))).drop 0).take (k - 0) : List (List UInt8)) ++ [t2])).length (((((((setL (l.take i))).drop 0).take (k - 0) : List (List UInt8)) ++ [t2])).map Str), .own 9 1 (.slice A1 ((setL (l.take i))).length c1) ((setL (l.take i))).length (((setL (l.take i))).map Str)]) (by rw [show ((((((setL (l.take i))).drop 0).take (k - 0) : List (List UInt8)) ++ [t2])).length = ((((((setL (l.take i))).drop 0).take (k - 0) : List (List UInt8))).length + 1) by (simp <;> omega), show (((((((setL (l.take i))).drop 0).take (k - 0) : List (List UInt8)) ++ [t2])).map Str) = (((((((setL (l.take i))).drop 0).take (k - 0) : List (List UInt8))).map Str) ++ [Str t2]) by simp [List.map_drop, List.map_take]]; rfl)
       obtain ⟨A9_10, c9_10, rfl⟩ := own_is (f := Str) (l := (((((setL (l.take i))).drop 0).take (k - 0) : List (List UInt8)) ++ [t2])) (hM.own 1 rfl)
       refine tX #[true, true, true, true, true, true, true, true, true, true, true, true, true, true, false, false] (by kernel_rfl) ?_
       refine tM [14] (by kernel_rfl) rfl ⟨?_, trivial⟩
       refine stepAppendS hK hM 58 1 (m := (((setL (l.take i))).length - k)) (news := ((((setL (l.take i))).map Str).drop (k * 1)).take ((((setL (l.take i))).length - k) * 1)) Tryz.underlying36 elem_str (by kernel_rfl) rfl rfl rfl rfl (part_src (hM.own 2 rfl) (by omega) (Nat.le_refl _)) (by simp <;> omega) (all_part (all_one (fun _ => rfl) _) _ _) (by have h1 := setL_len (l.take i); have h2 := List.length_take_le i l; (try simp only [List.length_append, List.length_take, List.length_drop, List.length_cons, List.length_nil]); omega) ?_
       intro v44 a w hK hM
       replace hM := hM.to ([.row b9_9 9 [Str t2], .own 9 1 v44 (((((((setL (l.take i))).drop 0).take (k - 0) : List (List UInt8)) ++ [t2]) ++ (((setL (l.take i))).drop k).take (((setL (l.take i))).length - k))).length ((((((((setL (l.take i))).drop 0).take (k - 0) : List (List UInt8)) ++ [t2]) ++ (((setL (l.take i))).drop k).take (((setL (l.take i))).length - k))).map Str), .own 9 1 (.slice A1 ((setL (l.take i))).length c1) ((setL (l.take i))).length (((setL (l.take i))).map Str)]) (by rw [show (((((((setL (l.take i))).drop 0).take (k - 0) : List (List UInt8)) ++ [t2]) ++ (((setL (l.take i))).drop k).take (((setL (l.take i))).length - k))).length = (((((((setL (l.take i))).drop 0).take (k - 0) : List (List UInt8)) ++ [t2])).length + (((setL (l.take i))).length - k)) by (simp <;> omega), show ((((((((setL (l.take i))).drop 0).take (k - 0) : List (List UInt8)) ++ [t2]) ++ (((setL (l.take i))).drop k).take (((setL (l.take i))).length - k))).map Str) = ((((((((setL (l.take i))).drop 0).take (k - 0) : List (List UInt8)) ++ [t2])).map Str) ++ ((((setL (l.take i))).map Str).drop (k * 1)).take ((((setL (l.take i))).length - k) * 1)) by simp [List.map_drop, List.map_take]]; rfl)
       obtain ⟨A9_14, c9_14, rfl⟩ := own_is (f := Str) (l := ((((((setL (l.take i))).drop 0).take (k - 0) : List (List UInt8)) ++ [t2]) ++ (((setL (l.take i))).drop k).take (((setL (l.take i))).length - k))) (hM.own 1 rfl)
       refine tX #[true, true, true, true, true, true, true, true, true, true, true, true, true, true, true, false] (by kernel_rfl) ?_
       refine tP hK 15 3 (.slice A9_14 (((((((setL (l.take i))).drop 0).take (k - 0) : List (List UInt8)) ++ [t2]) ++ (((setL (l.take i))).drop k).take (((setL (l.take i))).length - k))).length c9_14) (by kernel_rfl) (by kernel_rfl) (by kernel_rfl) (fun w => (by kernel_rfl)) #[true, true, true, true, true, true, true, true, true, true, true, true, true, true, true, true] (by kernel_rfl) fun a hK => ?_
       exact treeE (by kernel_rfl) ⟨A9_10, A9_14, A9_4, b9_0, b9_9, c9_10, c9_14, c9_4, hK.sub ⟨rfl, rfl, rfl, rfl, rfl, rfl, rfl, rfl, trivial⟩, hM⟩
     ·refine sA hK hM 53 9 [Str t2] (fun b => .slice (some ⟨b, 0, none⟩) 1 1) (by kernel_rfl) (by kernel_rfl) fun b9_9 a w hK hM => ?_
      refine tX #[false, true, true, true, false, true, true, true, true, true, false, true, true, true, false, false] (by kernel_rfl) ?_
      refine tM [0] (by kernel_rfl) rfl ⟨?_, trivial⟩
      refine sA hK hM 44 9 [] (fun b => .slice (some ⟨b, 0, none⟩) 0 0) (by kernel_rfl) (by kernel_rfl) fun b9_0 a w hK hM => ?_
      refine tX #[true, true, true, true, false, true, true, true, true, true, false, true, true, true, false, false] (by kernel_rfl) ?_
      refine tM [4] (by kernel_rfl) rfl ⟨?_, trivial⟩
      replace hM := hM.rowOwnAt 0 (n := 0) (s := 1) rfl rfl (by decide)
      replace hM := hM.to [.own 9 1 (.slice (some ⟨b9_0, 0, none⟩) 0 0) 0 [], .row b9_9 9 [Str t2], .own 9 1 (.slice A1 ((setL (l.take i))).length c1) ((setL (l.take i))).length (((setL (l.take i))).map Str)] (by kernel_rfl)
      refine stepAppendS hK hM 48 0 (m := (k - 0)) (news := ((((setL (l.take i))).map Str).drop (0 * 1)).take ((k - 0) * 1)) Tryz.underlying36 elem_str (by kernel_rfl) rfl rfl rfl rfl (part_src (hM.own 2 rfl) (Nat.zero_le _) (by omega)) (by simp <;> omega) (all_part (all_one (fun _ => rfl) _) _ _) (by have h1 := setL_len (l.take i); have h2 := List.length_take_le i l; (try simp only [List.length_append, List.length_take, List.length_drop, List.length_cons, List.length_nil]); omega) ?_
      intro v45 a w hK hM
      replace hM := hM.to ([.own 9 1 v45 (((((setL (l.take i))).drop 0).take (k - 0) : List (List UInt8))).length ((((((setL (l.take i))).drop 0).take (k - 0) : List (List UInt8))).map Str), .row b9_9 9 [Str t2], .own 9 1 (.slice A1 ((setL (l.take i))).length c1) ((setL (l.take i))).length (((setL (l.take i))).map Str)]) (by rw [show (((((setL (l.take i))).drop 0).take (k - 0) : List (List UInt8))).length = (0 + (k - 0)) by (simp <;> omega), show ((((((setL (l.take i))).drop 0).take (k - 0) : List (List UInt8))).map Str) = ([] ++ ((((setL (l.take i))).map Str).drop (0 * 1)).take ((k - 0) * 1)) by simp [List.map_drop, List.map_take]]; rfl)
      obtain ⟨A9_4, c9_4, rfl⟩ := own_is (f := Str) (l := ((((setL (l.take i))).drop 0).take (k - 0) : List (List UInt8))) (hM.own 0 rfl)
      refine tX #[true, true, true, true, true, true, true, true, true, true, false, true, true, true, false, false] (by kernel_rfl) ?_
      refine tM [10] (by kernel_rfl) rfl ⟨?_, trivial⟩
      refine stepAppendS hK hM 54 0 (m := 1) (news := [Str t2]) Tryz.underlying36 elem_str (by kernel_rfl) rfl rfl rfl rfl (row_src (hM.row 1 rfl)) rfl rfl (by have h1 := setL_len (l.take i); have h2 := List.length_take_le i l; (try simp only [List.length_append, List.length_take, List.length_drop, List.length_cons, List.length_nil]); omega) ?_
      intro v46 a w hK hM
      replace hM := hM.to ([.own 9 1 v46 ((((((setL (l.take i))).drop 0).take (k - 0) : List (List UInt8)) ++ [t2])).length (((((((setL (l.take i))).drop 0).take (k - 0) : List (List UInt8)) ++ [t2])).map Str), .row b9_9 9 [Str t2], .own 9 1 (.slice A1 ((setL (l.take i))).length c1) ((setL (l.take i))).length (((setL (l.take i))).map Str)]) (by rw [show ((((((setL (l.take i))).drop 0).take (k - 0) : List (List UInt8)) ++ [t2])).length = ((((((setL (l.take i))).drop 0).take (k - 0) : List (List UInt8))).length + 1) by (simp <;> omega), show (((((((setL (l.take i))).drop 0).take (k - 0) : List (List UInt8)) ++ [t2])).map Str) = (((((((setL (l.take i))).drop 0).take (k - 0) : List (List UInt8))).map Str) ++ [Str t2]) by simp [List.map_drop, List.map_take]]; rfl)
      obtain ⟨A9_10, c9_10, rfl⟩ := own_is (f := Str) (l := (((((setL (l.take i))).drop 0).take (k - 0) : List (List UInt8)) ++ [t2])) (hM.own 0 rfl)
      refine tX #[true, true, true, true, true, true, true, true, true, true, true, true, true, true, false, false] (by kernel_rfl) ?_
      refine tM [14] (by kernel_rfl) rfl ⟨?_, trivial⟩
      refine stepAppendS hK hM 58 0 (m := (((setL (l.take i))).length - k)) (news := ((((setL (l.take i))).map Str).drop (k * 1)).take ((((setL (l.take i))).length - k) * 1)) Tryz.underlying36 elem_str (by kernel_rfl) rfl rfl rfl rfl (part_src (hM.own 2 rfl) (by omega) (Nat.le_refl _)) (by simp <;> omega) (all_part (all_one (fun _ => rfl) _) _ _) (by have h1 := setL_len (l.take i); have h2 := List.length_take_le i l; (try simp only [List.length_append, List.length_take, List.length_drop, List.length_cons, List.length_nil]); omega) ?_
      intro v47 a w hK hM
      replace hM := hM.to ([.own 9 1 v47 (((((((setL (l.take i))).drop 0).take (k - 0) : List (List UInt8)) ++ [t2]) ++ (((setL (l.take i))).drop k).take (((setL (l.take i))).length - k))).length ((((((((setL (l.take i))).drop 0).take (k - 0) : List (List UInt8)) ++ [t2]) ++ (((setL (l.take i))).drop k).take (((setL (l.take i))).length - k))).map Str), .row b9_9 9 [Str t2], .own 9 1 (.slice A1 ((setL (l.take i))).length c1) ((setL (l.take i))).length (((setL (l.take i))).map Str)]) (by rw [show (((((((setL (l.take i))).drop 0).take (k - 0) : List (List UInt8)) ++ [t2]) ++ (((setL (l.take i))).drop k).take (((setL (l.take i))).length - k))).length = (((((((setL (l.take i))).drop 0).take (k - 0) : List (List UInt8)) ++ [t2])).length + (((setL (l.take i))).length - k)) by (simp <;> omega), show ((((((((setL (l.take i))).drop 0).take (k - 0) : List (List UInt8)) ++ [t2]) ++ (((setL (l.take i))).drop k).take (((setL (l.take i))).length - k))).map Str) = ((((((((setL (l.take i))).drop 0).take (k - 0) : List (List UInt8)) ++ [t2])).map Str) ++ ((((setL (l.take i))).map Str).drop (k * 1)).take ((((setL (l.take i))).length - k) * 1)) by simp [List.map_drop, List.map_take]]; rfl)
      obtain ⟨A9_14, c9_14, rfl⟩ := own_is (f := Str) (l := ((((((setL (l.take i))).drop 0).take (k - 0) : List (List UInt8)) ++ [t2]) ++ (((setL (l.take i))).drop k).take (((setL (l.take i))).length - k))) (hM.own 0 rfl)
      refine tX #[true, true, true, true, true, true, true, true, true, true, true, true, true, true, true, false] (by kernel_rfl) ?_
      refine tP hK 15 3 (.slice A9_14 (((((((setL (l.take i))).drop 0).take (k - 0) : List (List UInt8)) ++ [t2]) ++ (((setL (l.take i))).drop k).take (((setL (l.take i))).length - k))).length c9_14) (by kernel_rfl) (by kernel_rfl) (by kernel_rfl) (fun w => (by kernel_rfl)) #[true, true, true, true, true, true, true, true, true, true, true, true, true, true, true, true] (by kernel_rfl) fun a hK => ?_
      exact treeE (by kernel_rfl) ⟨A9_10, A9_14, A9_4, b9_0, b9_9, c9_10, c9_14, c9_4, hK.sub ⟨rfl, rfl, rfl, rfl, rfl, rfl, rfl, rfl, trivial⟩, (hM.order [[.own 9 1 (.slice A9_14 (((((((setL (l.take i))).drop 0).take (k - 0) : List (List UInt8)) ++ [t2]) ++ (((setL (l.take i))).drop k).take (((setL (l.take i))).length - k))).length c9_14) (((((((setL (l.take i))).drop 0).take (k - 0) : List (List UInt8)) ++ [t2]) ++ (((setL (l.take i))).drop k).take (((setL (l.take i))).length - k))).length ((((((((setL (l.take i))).drop 0).take (k - 0) : List (List UInt8)) ++ [t2]) ++ (((setL (l.take i))).drop k).take (((setL (l.take i))).length - k))).map Str)], [.row b9_9 9 [Str t2]], [.own 9 1 (.slice A1 ((setL (l.take i))).length c1) ((setL (l.take i))).length (((setL (l.take i))).map Str)]] [1, 0, 2] 3 rfl (by simp) (by decide) _ (by simp))⟩
   rintro a w ⟨A9_10, A9_14, A9_4, b9_0, b9_9, c9_10, c9_14, c9_4, hK, hM⟩
   refine rg3 (by kernel_rfl) ?_
   refine sM hK 10 4 (by kernel_rfl) (.inl rfl) rfl fun a hK => ?_
   refine sP hK 11 (.int .i64 (((i + 1) : Nat) : Int)) (by kernel_rfl) (run_addN (i := i) (j := 1) rfl rfl rfl (by omega)) fun a hK => ?_
   refine sM hK 4 11 (by kernel_rfl) (.inr rfl) rfl fun a hK => ?_
   refine rps ?_
   have hL9 : ((((((setL (l.take i))).drop 0).take (k - 0) : List (List UInt8)) ++ [t2]) ++ (((setL (l.take i))).drop k).take (((setL (l.take i))).length - k)) = (setL (l.take (i + 1))) := (by rw [setL_take ht2, insL_split (k := k) (by omega) hS (fun y hy => absurd (List.getElem?_eq_some_iff.1 hy).1 (by omega)), if_neg (fun hy => absurd (List.getElem?_eq_some_iff.1 hy).1 (by omega)), show ((setL (l.take i)).drop k).take ((setL (l.take i)).length - k) = (setL (l.take i)).drop k from List.take_of_length_le (by rw [List.length_drop]; exact Nat.le_refl _)]; simp)
   rw [hL9] at hM; try rw [hL9] at hK
   clear hL9
   replace hM := hM.to ([.row b9_9 9 [Str t2], .own 9 1 (.slice A9_14 ((setL (l.take (i + 1)))).length c9_14) ((setL (l.take (i + 1)))).length (((setL (l.take (i + 1)))).map Str), .own 9 1 (.slice A1 ((setL (l.take i))).length c1) ((setL (l.take i))).length (((setL (l.take i))).map Str)]) (by kernel_rfl)
   replace hM := (hM.order [[.row b9_9 9 [Str t2]], [.own 9 1 (.slice A9_14 ((setL (l.take (i + 1)))).length c9_14) ((setL (l.take (i + 1)))).length (((setL (l.take (i + 1)))).map Str)], [.own 9 1 (.slice A1 ((setL (l.take i))).length c1) ((setL (l.take i))).length (((setL (l.take i))).map Str)]] [0, 2, 1] 3 rfl (by simp) (by decide) ([.row b9_9 9 [Str t2], .own 9 1 (.slice A1 ((setL (l.take i))).length c1) ((setL (l.take i))).length (((setL (l.take i))).map Str), .own 9 1 (.slice A9_14 ((setL (l.take (i + 1)))).length c9_14) ((setL (l.take (i + 1)))).length (((setL (l.take (i + 1)))).map Str)]) (by simp)).drop 2
   replace hM := hM.to ([.own 9 1 (.slice A9_14 ((setL (l.take (i + 1)))).length c9_14) ((setL (l.take (i + 1)))).length (((setL (l.take (i + 1)))).map Str)]) (by kernel_rfl)
   have hRn : (i + 1) ≤ l.length := (by omega)
   have hmn : l.length - (i + 1) < l.length - i := by omega
   exact ⟨(i + 1, A9_14, c9_14), hK.sub ⟨rfl, rfl, rfl, rfl, trivial⟩, hM, hRn, hmn⟩
 ·refine sP hK 9 (.bool false) (by kernel_rfl) (oB (b := (decide ((((i : Nat) : Int) : Int) < ((l.length : Nat) : Int)))) (by kernel_rfl) (decide_eq_false h1)) fun a hK => ?_
  refine rps ?_
  refine wp_cond_false (hK.get rfl) ?_
  refine wp_exit (exit_then (exit_then (exit_here 0 ?_)))
  refine wp_seq ?_
  have hL9 : (setL (l.take i)) = (setL l) := (by rw [List.take_of_length_le (by omega)])
  rw [hL9] at hM; try rw [hL9] at hK
  clear hL9
  replace hM := hM.to ([.own 9 1 (.slice A1 ((setL l)).length c1) ((setL l)).length (((setL l)).map Str)]) (by kernel_rfl)
  replace hM := hM
  replace hM := hM.to ([.own 9 1 (.slice A1 ((setL l)).length c1) ((setL l)).length (((setL l)).map Str)]) (by kernel_rfl)
  refine rg2 (by kernel_rfl) ?_
  refine sM hK 59 3 (by kernel_rfl) (.inl rfl) rfl fun a hK => ?_
  refine sM hK 2 59 (by kernel_rfl) (.inr rfl) rfl fun a hK => ?_
  refine rps ?_
  refine wp_ret ?_
  exact ret_t hK rfl (u := (.slice A1 ((setL l)).length c1)) rfl (⟨(A1, c1), rfl, hM, trivial⟩)
set_option maxRecDepth 100000 in
set_option maxHeartbeats 4000000 in
theorem ref_Regs (l : List Sm) : ∀ (A : Option Addr) (c : Nat) (w0 : World), SmsAt w0 A l → smsSz l ≤ 1000000 → Calls Tryz.prog 15 #[.slice A l.length c] w0 (GivesT w0 (setL (smsRg l))) := by
 intro A c w0 hl hsz
 refine calls_K (args := [.slice A l.length c]) (n := 6) (env := [(0, .slice A l.length c)]) Tryz.func15 rfl rfl rfl ⟨rfl, trivial⟩ fun a w hK hM => ?_
 refine wp_seq ?_
 refine rg1 (by kernel_rfl) ?_
 refine sP hK 2 (.slice none 0 0) (by kernel_rfl) (by kernel_rfl) fun a hK => ?_
 refine rps ?_
 refine wp_seq ?_
 refine rg4 (by kernel_rfl) ?_
 refine sM hK 3 0 (by kernel_rfl) (.inl rfl) rfl fun a hK => ?_
 refine sC hK hM 4 #[.slice A l.length c] (by kernel_rfl) (rC en_cantileverref03_all rfl rfl (by kernel_rfl)) (ref_all l _ _ _ (hl.on hM.below) (by omega)) ?_
 rintro ⟨A1, c2⟩ a w - hK hM
 refine sC hK hM 5 #[.slice A1 ((smsRg l)).length c2] (by kernel_rfl) (rC en_cantileverref03_Set rfl rfl (by kernel_rfl)) (ref_Set (smsRg l) _ _ _ (own_at (hM.own 0 rfl)) (by have h1 := smsRg_sz l; omega)) ?_
 rintro ⟨A4, c5⟩ a w - hK hM
 refine sM hK 2 5 (by kernel_rfl) (.inr rfl) rfl fun a hK => ?_
 refine rps ?_
 refine wp_ret ?_
 exact ret_t hK rfl (u := (.slice A4 ((setL (smsRg l))).length c5)) rfl (⟨(A4, c5), rfl, hM.pick 0 rfl, trivial⟩)
def cntL (l : List Sm) : List Int := ((List.range 11).map fun j : Nat => ((smsCt ((j : Int) + 1) l : Nat) : Int))
set_option maxRecDepth 100000 in
set_option maxHeartbeats 4000000 in
theorem ref_Kinds (l : List Sm) : ∀ (A : Option Addr) (c : Nat) (w0 : World), SmsAt w0 A l → smsSz l ≤ 1000000 → Calls Tryz.prog 18 #[.slice A l.length c] w0 (Gives w0 (fun x : Option Addr × Nat => (.slice x.1 (cntL l).length x.2 : Value)) (fun x => [.own 3 1 (.slice x.1 (cntL l).length x.2) (cntL l).length ((cntL l).map fun x : Int => Value.int .i64 x)]) fun _ => True) := by
 intro A c w0 hl hsz
 refine calls_K (args := [.slice A l.length c]) (n := 16) (env := [(0, .slice A l.length c)]) Tryz.func18 rfl rfl rfl ⟨rfl, trivial⟩ fun a w hK hM => ?_
 refine wp_seq ?_
 refine rg1 (by kernel_rfl) ?_
 refine sP hK 2 (.slice none 0 0) (by kernel_rfl) (by kernel_rfl) fun a hK => ?_
 refine rps ?_
 refine wp_seq ?_
 refine rg1 (by kernel_rfl) ?_
 refine sP hK 3 (.slice none 0 0) (by kernel_rfl) (by kernel_rfl) fun a hK => ?_
 refine rps ?_
 refine wp_seq ?_
 refine wp_seq ?_
 replace hM := hM.cons (it := .own 3 1 (.slice none 0 0) 0 []) (World.ownsRow_nil _ _ _ _) (fun _ _ => .inl rfl)
 refine rg1 (by kernel_rfl) ?_
 refine sP hK 4 (.int .i64 1) (by kernel_rfl) (by kernel_rfl) fun a hK => ?_
 refine rps ?_
 refine wp_block ?_
 have hL9 : ([] : List Int) = ((List.range 0).map fun j : Nat => ((smsCt ((j : Int) + 1) l : Nat) : Int)) := (by simp)
 replace hM := hM.to ([.own 3 1 (.slice none (((List.range 0).map fun j : Nat => ((smsCt ((j : Int) + 1) l : Nat) : Int))).length 0) (((List.range 0).map fun j : Nat => ((smsCt ((j : Int) + 1) l : Nat) : Int))).length ((((List.range 0).map fun j : Nat => ((smsCt ((j : Int) + 1) l : Nat) : Int))).map (fun x : Int => Value.int .i64 x))]) (by rw [← hL9]; rfl)
 replace hK : Knows a 16 [(4, .int .i64 1), (3, .slice none (((List.range 0).map fun j : Nat => ((smsCt ((j : Int) + 1) l : Nat) : Int))).length 0), (2, .slice none 0 0), (0, .slice A l.length c)] := by rw [← hL9]; exact hK.sub ⟨rfl, rfl, rfl, rfl, trivial⟩
 clear hL9
 replace hM := hM
 replace hM := hM.to ([.own 3 1 (.slice none (((List.range 0).map fun j : Nat => ((smsCt ((j : Int) + 1) l : Nat) : Int))).length 0) (((List.range 0).map fun j : Nat => ((smsCt ((j : Int) + 1) l : Nat) : Int))).length ((((List.range 0).map fun j : Nat => ((smsCt ((j : Int) + 1) l : Nat) : Int))).map (fun x : Int => Value.int .i64 x))]) (by kernel_rfl)
 refine wLX (fun x : Nat × (Option Addr) × Nat => [(2, .slice none 0 0), (0, .slice A l.length c), (4, .int .i64 (((x.1 + 1) : Nat) : Int)), (3, .slice x.2.1 (((List.range x.1).map fun j : Nat => ((smsCt ((j : Int) + 1) l : Nat) : Int))).length x.2.2)]) (fun x : Nat × (Option Addr) × Nat => [.own 3 1 (.slice x.2.1 (((List.range x.1).map fun j : Nat => ((smsCt ((j : Int) + 1) l : Nat) : Int))).length x.2.2) (((List.range x.1).map fun j : Nat => ((smsCt ((j : Int) + 1) l : Nat) : Int))).length ((((List.range x.1).map fun j : Nat => ((smsCt ((j : Int) + 1) l : Nat) : Int))).map (fun x : Int => Value.int .i64 x))]) (fun x : Nat × (Option Addr) × Nat => x.1 ≤ 11) (fun x : Nat × (Option Addr) × Nat => 11 - x.1) (0, none, 0) (hK.sub ⟨rfl, rfl, rfl, rfl, trivial⟩) hM (Nat.zero_le _) ?_
 rintro ⟨i, A1, c1⟩ a w hK hM hR
 replace hK : Knows a 16 [(2, .slice none 0 0), (0, .slice A l.length c), (4, .int .i64 (((i + 1) : Nat) : Int)), (3, .slice A1 (((List.range i).map fun j : Nat => ((smsCt ((j : Int) + 1) l : Nat) : Int))).length c1)] := hK
 replace hM : Mem w0 w [.own 3 1 (.slice A1 (((List.range i).map fun j : Nat => ((smsCt ((j : Int) + 1) l : Nat) : Int))).length c1) (((List.range i).map fun j : Nat => ((smsCt ((j : Int) + 1) l : Nat) : Int))).length ((((List.range i).map fun j : Nat => ((smsCt ((j : Int) + 1) l : Nat) : Int))).map (fun x : Int => Value.int .i64 x))] := hM
 replace hR : i ≤ 11 := hR
 refine wp_seq ?_
 refine wp_seq ?_
 refine rg2 (by kernel_rfl) ?_
 refine sM hK 5 4 (by kernel_rfl) (.inl rfl) rfl fun a hK => ?_
 by_cases h1 : ((((i + 1) : Nat) : Int) : Int) ≤ 11
 ·refine sP hK 6 (.bool true) (by kernel_rfl) (oB (b := (decide (((((i + 1) : Nat) : Int) : Int) ≤ 11))) (by kernel_rfl) (decide_eq_true h1)) fun a hK => ?_
  refine rps ?_
  refine wp_cond_true (hK.get rfl) ?_
  refine wp_skip ?_
  refine wp_seq ?_
  refine wp_block ?_
  refine rg7 (by kernel_rfl) ?_
  refine sM hK 9 3 (by kernel_rfl) (.inl rfl) rfl fun a hK => ?_
  refine sM hK 10 0 (by kernel_rfl) (.inl rfl) rfl fun a hK => ?_
  refine sM hK 11 4 (by kernel_rfl) (.inl rfl) rfl fun a hK => ?_
  refine sR hK hM 12 #[.slice A l.length c, .int .i64 (((i + 1) : Nat) : Int)] (.int .i64 (((smsCt (((i + 1) : Nat) : Int) l) : Nat) : Int)) (by kernel_rfl) (rC en_cantileverref03_count rfl rfl (by kernel_rfl)) (ref_count (((i + 1) : Nat) : Int) l _ _ _ (hl.on hM.below) (by omega)) fun a w hK hM => ?_
  refine sA hK hM 13 3 [.int .i64 (((smsCt (((i + 1) : Nat) : Int) l) : Nat) : Int)] (fun b => .slice (some ⟨b, 0, none⟩) 1 1) (by kernel_rfl) (by kernel_rfl) fun b2 a w hK hM => ?_
  refine stepAppendS hK hM 14 1 (m := 1) (news := [.int .i64 (((smsCt (((i + 1) : Nat) : Int) l) : Nat) : Int)]) Tryz.underlying40 elem_int (by kernel_rfl) rfl rfl rfl rfl (row_src (hM.row 0 rfl)) rfl rfl (by simp only [List.length_map, List.length_range]; omega) ?_
  intro v3 a w hK hM
  replace hM := hM.to ([.row b2 3 [.int .i64 (((smsCt (((i + 1) : Nat) : Int) l) : Nat) : Int)], .own 3 1 v3 ((((List.range i).map fun j : Nat => ((smsCt ((j : Int) + 1) l : Nat) : Int)) ++ [(((smsCt (((i + 1) : Nat) : Int) l) : Nat) : Int)])).length (((((List.range i).map fun j : Nat => ((smsCt ((j : Int) + 1) l : Nat) : Int)) ++ [(((smsCt (((i + 1) : Nat) : Int) l) : Nat) : Int)])).map (fun x : Int => Value.int .i64 x))]) (by rw [show ((((List.range i).map fun j : Nat => ((smsCt ((j : Int) + 1) l : Nat) : Int)) ++ [(((smsCt (((i + 1) : Nat) : Int) l) : Nat) : Int)])).length = ((((List.range i).map fun j : Nat => ((smsCt ((j : Int) + 1) l : Nat) : Int))).length + 1) by (simp <;> omega), show (((((List.range i).map fun j : Nat => ((smsCt ((j : Int) + 1) l : Nat) : Int)) ++ [(((smsCt (((i + 1) : Nat) : Int) l) : Nat) : Int)])).map (fun x : Int => Value.int .i64 x)) = (((((List.range i).map fun j : Nat => ((smsCt ((j : Int) + 1) l : Nat) : Int))).map (fun x : Int => Value.int .i64 x)) ++ [.int .i64 (((smsCt (((i + 1) : Nat) : Int) l) : Nat) : Int)]) by simp [List.map_drop, List.map_take]]; rfl)
  obtain ⟨A4, c5, rfl⟩ := own_is (f := (fun x : Int => Value.int .i64 x)) (l := (((List.range i).map fun j : Nat => ((smsCt ((j : Int) + 1) l : Nat) : Int)) ++ [(((smsCt (((i + 1) : Nat) : Int) l) : Nat) : Int)])) (hM.own 1 rfl)
  refine sM hK 3 14 (by kernel_rfl) (.inr rfl) rfl fun a hK => ?_
  refine rps ?_
  refine rg3 (by kernel_rfl) ?_
  refine sM hK 7 4 (by kernel_rfl) (.inl rfl) rfl fun a hK => ?_
  refine sP hK 8 (.int .i64 ((((i + 1) + 1) : Nat) : Int)) (by kernel_rfl) (run_addN (i := (i + 1)) (j := 1) rfl rfl rfl (by omega)) fun a hK => ?_
  refine sM hK 4 8 (by kernel_rfl) (.inr rfl) rfl fun a hK => ?_
  refine rps ?_
  have hL9 : (((List.range i).map fun j : Nat => ((smsCt ((j : Int) + 1) l : Nat) : Int)) ++ [(((smsCt (((i + 1) : Nat) : Int) l) : Nat) : Int)]) = ((List.range (i + 1)).map fun j : Nat => ((smsCt ((j : Int) + 1) l : Nat) : Int)) := (by rw [List.range_succ, List.map_append]; simp)
  rw [hL9] at hM; try rw [hL9] at hK
  clear hL9
  replace hM := hM.to ([.row b2 3 [.int .i64 (((smsCt (((i + 1) : Nat) : Int) l) : Nat) : Int)], .own 3 1 (.slice A4 (((List.range (i + 1)).map fun j : Nat => ((smsCt ((j : Int) + 1) l : Nat) : Int))).length c5) (((List.range (i + 1)).map fun j : Nat => ((smsCt ((j : Int) + 1) l : Nat) : Int))).length ((((List.range (i + 1)).map fun j : Nat => ((smsCt ((j : Int) + 1) l : Nat) : Int))).map (fun x : Int => Value.int .i64 x))]) (by kernel_rfl)
  replace hM := hM.drop 1
  replace hM := hM.to ([.own 3 1 (.slice A4 (((List.range (i + 1)).map fun j : Nat => ((smsCt ((j : Int) + 1) l : Nat) : Int))).length c5) (((List.range (i + 1)).map fun j : Nat => ((smsCt ((j : Int) + 1) l : Nat) : Int))).length ((((List.range (i + 1)).map fun j : Nat => ((smsCt ((j : Int) + 1) l : Nat) : Int))).map (fun x : Int => Value.int .i64 x))]) (by kernel_rfl)
  have hRn : (i + 1) ≤ 11 := (by omega)
  have hmn : 11 - (i + 1) < 11 - i := by omega
  exact ⟨(i + 1, A4, c5), hK.sub ⟨rfl, rfl, rfl, rfl, trivial⟩, hM, hRn, hmn⟩
 ·refine sP hK 6 (.bool false) (by kernel_rfl) (oB (b := (decide (((((i + 1) : Nat) : Int) : Int) ≤ 11))) (by kernel_rfl) (decide_eq_false h1)) fun a hK => ?_
  refine rps ?_
  refine wp_cond_false (hK.get rfl) ?_
  refine wp_exit (exit_then (exit_then (exit_here 0 ?_)))
  refine wp_seq ?_
  obtain rfl : i = 11 := by omega
  replace hM := hM
  replace hM := hM.to ([.own 3 1 (.slice A1 (((List.range 11).map fun j : Nat => ((smsCt ((j : Int) + 1) l : Nat) : Int))).length c1) (((List.range 11).map fun j : Nat => ((smsCt ((j : Int) + 1) l : Nat) : Int))).length ((((List.range 11).map fun j : Nat => ((smsCt ((j : Int) + 1) l : Nat) : Int))).map (fun x : Int => Value.int .i64 x))]) (by kernel_rfl)
  refine rg2 (by kernel_rfl) ?_
  refine sM hK 15 3 (by kernel_rfl) (.inl rfl) rfl fun a hK => ?_
  refine sM hK 2 15 (by kernel_rfl) (.inr rfl) rfl fun a hK => ?_
  refine rps ?_
  refine wp_ret ?_
  exact ret_t hK rfl (u := (.slice A1 (((List.range 11).map fun j : Nat => ((smsCt ((j : Int) + 1) l : Nat) : Int))).length c1)) rfl (⟨(A1, c1), rfl, hM, trivial⟩)
set_option maxRecDepth 100000 in
set_option maxHeartbeats 4000000 in
theorem ref_Same (p q : Pg) (w0 : World) (hp : PgAt w0 p) (hq : PgAt w0 q) : Calls Tryz.prog 8 #[vG p, vG q] w0 (Ret w0 (.bool (pgSame p q))) := by
 have hpl := hp.len; have hql := hq.len
 refine calls_K (args := [vG p, vG q]) (n := 60) (env := [(0, vG p), (1, vG q)]) Tryz.func8 rfl rfl rfl ⟨rfl, rfl, trivial⟩ fun a w hK hM => ?_
 refine wp_seq ?_
 refine rg3 (by kernel_rfl) ?_
 refine sA hK hM 2 25 [.slice p.A1 p.ds.length p.c1, .slice p.A2 p.ts.length p.c2] (fun b => pA b 0) (by kernel_rfl) (by kernel_rfl) fun b1 a w hK hM => ?_
 refine sA hK hM 3 25 [.slice q.A1 q.ds.length q.c1, .slice q.A2 q.ts.length q.c2] (fun b => pA b 0) (by kernel_rfl) (by kernel_rfl) fun b2 a w hK hM => ?_
 refine sP hK 4 (.bool false) (by kernel_rfl) (by kernel_rfl) fun a hK => ?_
 refine rps ?_
 refine wp_seq ?_
 refine wp_seq ?_
 refine rg16 (by kernel_rfl) ?_
 refine sP hK 7 (pA b1 0) (by kernel_rfl) (by kernel_rfl) fun a hK => ?_
 refine sL hK 8 (.slice p.A1 p.ds.length p.c1) (by kernel_rfl) rfl rfl ((hM.row 1 rfl).cells 0 1) (by kernel_rfl) fun a hK => ?_
 refine sP hK 9 (.int .i64 ((p.ds.length : Nat) : Int)) (by kernel_rfl) (by kernel_rfl) fun a hK => ?_
 refine sP hK 10 (pA b2 0) (by kernel_rfl) (by kernel_rfl) fun a hK => ?_
 refine sL hK 11 (.slice q.A1 q.ds.length q.c1) (by kernel_rfl) rfl rfl ((hM.row 0 rfl).cells 0 1) (by kernel_rfl) fun a hK => ?_
 refine sP hK 12 (.int .i64 ((q.ds.length : Nat) : Int)) (by kernel_rfl) (by kernel_rfl) fun a hK => ?_
 rcases Bool.eq_false_or_eq_true (!(decide ((((p.ds.length : Nat) : Int) : Int) = ((q.ds.length : Nat) : Int)))) with h3 | h3
 ·refine sP hK 13 (.bool true) (by kernel_rfl) (oB (b := (!(decide ((((p.ds.length : Nat) : Int) : Int) = ((q.ds.length : Nat) : Int))))) (by kernel_rfl) h3) fun a hK => ?_
  refine sM hK 14 13 (by kernel_rfl) (.inl rfl) rfl fun a hK => ?_
  refine sN hK 15 (by kernel_rfl) fun a hK => ?_
  refine sN hK 16 (by kernel_rfl) fun a hK => ?_
  refine sN hK 17 (by kernel_rfl) fun a hK => ?_
  refine sN hK 18 (by kernel_rfl) fun a hK => ?_
  refine sN hK 19 (by kernel_rfl) fun a hK => ?_
  refine sN hK 20 (by kernel_rfl) fun a hK => ?_
  refine sN hK 21 (by kernel_rfl) fun a hK => ?_
  refine sP hK 22 (.bool true) (by kernel_rfl) (by kernel_rfl) fun a hK => ?_
  refine rps ?_
  refine wp_cond_true (hK.get rfl) ?_
  refine wp_seq ?_
  refine rg1 (by kernel_rfl) ?_
  refine sP hK 4 (.bool false) (by kernel_rfl) (by kernel_rfl) fun a hK => ?_
  refine rps ?_
  refine wp_ret ?_
  exact ret_t hK rfl (u := (.bool false)) rfl (⟨by unfold pgSame dcsEq thsEq neI; rw [h3]; first | rfl | exact (Bool.and_false _).symm ▸ rfl, hM.below⟩)
 ·refine sP hK 13 (.bool false) (by kernel_rfl) (oB (b := (!(decide ((((p.ds.length : Nat) : Int) : Int) = ((q.ds.length : Nat) : Int))))) (by kernel_rfl) h3) fun a hK => ?_
  refine sM hK 14 13 (by kernel_rfl) (.inl rfl) rfl fun a hK => ?_
  refine sP hK 15 (pA b1 1) (by kernel_rfl) (by kernel_rfl) fun a hK => ?_
  refine sL hK 16 (.slice p.A2 p.ts.length p.c2) (by kernel_rfl) rfl rfl ((hM.row 1 rfl).cells 1 1) (by kernel_rfl) fun a hK => ?_
  refine sP hK 17 (.int .i64 ((p.ts.length : Nat) : Int)) (by kernel_rfl) (by kernel_rfl) fun a hK => ?_
  refine sP hK 18 (pA b2 1) (by kernel_rfl) (by kernel_rfl) fun a hK => ?_
  refine sL hK 19 (.slice q.A2 q.ts.length q.c2) (by kernel_rfl) rfl rfl ((hM.row 0 rfl).cells 1 1) (by kernel_rfl) fun a hK => ?_
  refine sP hK 20 (.int .i64 ((q.ts.length : Nat) : Int)) (by kernel_rfl) (by kernel_rfl) fun a hK => ?_
  rcases Bool.eq_false_or_eq_true (!(decide ((((p.ts.length : Nat) : Int) : Int) = ((q.ts.length : Nat) : Int)))) with h4 | h4
  ·refine sP hK 21 (.bool true) (by kernel_rfl) (oB (b := (!(decide ((((p.ts.length : Nat) : Int) : Int) = ((q.ts.length : Nat) : Int))))) (by kernel_rfl) h4) fun a hK => ?_
   refine sP hK 22 (.bool true) (by kernel_rfl) (by kernel_rfl) fun a hK => ?_
   refine rps ?_
   refine wp_cond_true (hK.get rfl) ?_
   refine wp_seq ?_
   refine rg1 (by kernel_rfl) ?_
   refine sP hK 4 (.bool false) (by kernel_rfl) (by kernel_rfl) fun a hK => ?_
   refine rps ?_
   refine wp_ret ?_
   exact ret_t hK rfl (u := (.bool false)) rfl (⟨by unfold pgSame dcsEq thsEq neI; rw [h3, h4]; first | rfl | exact (Bool.and_false _).symm ▸ rfl, hM.below⟩)
  ·refine sP hK 21 (.bool false) (by kernel_rfl) (oB (b := (!(decide ((((p.ts.length : Nat) : Int) : Int) = ((q.ts.length : Nat) : Int))))) (by kernel_rfl) h4) fun a hK => ?_
   refine sP hK 22 (.bool false) (by kernel_rfl) (by kernel_rfl) fun a hK => ?_
   refine rps ?_
   refine wp_cond_false (hK.get rfl) ?_
   refine wp_skip ?_
   refine wp_seq ?_
   refine wp_seq ?_
   have hnd : neI ((p.ds.length : Nat) : Int) ((q.ds.length : Nat) : Int) = false := by unfold neI; rw [h3]
   have hnt : neI ((p.ts.length : Nat) : Int) ((q.ts.length : Nat) : Int) = false := by unfold neI; rw [h4]
   have hld : p.ds.length = q.ds.length := by have q9 := h3; simp at q9; omega
   have hlt : p.ts.length = q.ts.length := by have q9 := h4; simp at q9; omega
   refine rg1 (by kernel_rfl) ?_
   refine sP hK 5 (.int .i64 0) (by kernel_rfl) (by kernel_rfl) fun a hK => ?_
   refine rps ?_
   refine wp_block ?_
   refine wLX (fun x : Nat => [(22, .bool false), (4, .bool false), (3, pA b2 0), (2, pA b1 0), (0, vG p), (1, vG q), (5, vN x)]) (fun x : Nat => [.row b2 25 [.slice q.A1 q.ds.length q.c1, .slice q.A2 q.ts.length q.c2], .row b1 25 [.slice p.A1 p.ds.length p.c1, .slice p.A2 p.ts.length p.c2]]) (fun x : Nat => x ≤ p.ds.length ∧ dcsSame (p.ds.drop x) (q.ds.drop x) = dcsSame p.ds q.ds) (fun x : Nat => p.ds.length - x) 0 (hK.sub ⟨rfl, rfl, rfl, rfl, rfl, rfl, rfl, trivial⟩) hM ⟨Nat.zero_le _, rfl⟩ ?_
   rintro i a w hK hM hR
   replace hK : Knows a 60 [(22, .bool false), (4, .bool false), (3, pA b2 0), (2, pA b1 0), (0, vG p), (1, vG q), (5, vN i)] := hK
   replace hM : Mem w0 w [.row b2 25 [.slice q.A1 q.ds.length q.c1, .slice q.A2 q.ts.length q.c2], .row b1 25 [.slice p.A1 p.ds.length p.c1, .slice p.A2 p.ts.length p.c2]] := hM
   replace hR : i ≤ p.ds.length ∧ dcsSame (p.ds.drop i) (q.ds.drop i) = dcsSame p.ds q.ds := hR
   refine wp_seq ?_
   refine wp_seq ?_
   refine rg5 (by kernel_rfl) ?_
   refine sM hK 23 5 (by kernel_rfl) (.inl rfl) rfl fun a hK => ?_
   refine sP hK 24 (pA b1 0) (by kernel_rfl) (by kernel_rfl) fun a hK => ?_
   refine sL hK 25 (.slice p.A1 p.ds.length p.c1) (by kernel_rfl) rfl rfl ((hM.row 1 rfl).cells 0 1) (by kernel_rfl) fun a hK => ?_
   refine sP hK 26 (.int .i64 ((p.ds.length : Nat) : Int)) (by kernel_rfl) (by kernel_rfl) fun a hK => ?_
   by_cases h5 : (((i : Nat) : Int) : Int) < ((p.ds.length : Nat) : Int)
   ·refine sP hK 27 (.bool true) (by kernel_rfl) (oB (b := (decide ((((i : Nat) : Int) : Int) < ((p.ds.length : Nat) : Int)))) (by kernel_rfl) (decide_eq_true h5)) fun a hK => ?_
    refine rps ?_
    refine wp_cond_true (hK.get rfl) ?_
    refine wp_skip ?_
    refine wp_seq ?_
    refine wp_block ?_
    refine wp_seq ?_
    obtain ⟨t6, ht6⟩ : ∃ t, p.ds[(i : Nat)]? = some t := ⟨_, List.getElem?_eq_getElem (by omega)⟩
    obtain ⟨⟨at6, At6, ct6⟩, et6⟩ := hp.decls _ _ ht6; have nt6 := et6
    obtain ⟨t7, ht7⟩ : ∃ t, q.ds[(i : Nat)]? = some t := ⟨_, List.getElem?_eq_getElem (by omega)⟩
    obtain ⟨⟨at7, At7, ct7⟩, et7⟩ := hq.decls _ _ ht7; have nt7 := et7
    rcases Bool.eq_false_or_eq_true (!(decide (t6.nm = t7.nm) && decide (t6.plain = t7.plain) && decide ((t6.val : Int) = t7.val))) with h8 | h8
    ·refine rAn (F := fun w => Mem w0 w [.row b2 25 [.slice q.A1 q.ds.length q.c1, .slice q.A2 q.ts.length q.c2], .row b1 25 [.slice p.A1 p.ds.length p.c1, .slice p.A2 p.ts.length p.c2]]) hK [some (pA b1 0), some (.slice p.A1 p.ds.length p.c1), some (vN i), some (.pointer (some (at6.add (i * 3)))), some (.agg #[Str t6.nm, .bool t6.plain, .int .i64 t6.val]), some (pA b2 0), some (.slice q.A1 q.ds.length q.c1), some (vN i), some (.pointer (some (at7.add (i * 3)))), some (.agg #[Str t7.nm, .bool t7.plain, .int .i64 t7.val]), some (.bool true)] 11 (fun _ _ hb hm => hm.go hb) hM (by kernel_rfl) (by kernel_rfl) ⟨⟨⟨⟨⟨⟨⟨⟨⟨⟨⟨trivial, ?_⟩, ?_⟩, ?_⟩, ?_⟩, ?_⟩, ?_⟩, ?_⟩, ?_⟩, ?_⟩, ?_⟩, ?_⟩ [(40, .bool true), (27, .bool true), (22, .bool false), (4, .bool false), (3, pA b2 0), (2, pA b1 0), (0, vG p), (1, vG q), (5, vN i)] (by kernel_rfl) fun a w hK hM => ?_
     ·exact .val (pA b1 0) rfl (by kernel_rfl) (fun w hM => (by kernel_rfl))
     ·exact .val (.slice p.A1 p.ds.length p.c1) rfl (by kernel_rfl) (fun w hM => rL rfl rfl ((hM.row 1 rfl).cells 0 1) (by kernel_rfl))
     ·exact .val (vN i) rfl (by kernel_rfl) (fun w hM => (by kernel_rfl))
     ·exact .val (.pointer (some (at6.add (i * 3)))) rfl (by kernel_rfl) (fun w hM => (rX (k := i) (s := 3) rfl rfl At6 rfl Tryz.underlying22 (by kernel_rfl) (by omega)))
     ·exact .val (.agg #[Str t6.nm, .bool t6.plain, .int .i64 t6.val]) rfl (by kernel_rfl) (fun w hM => rL rfl rfl ((ct6.on hM.below)) (by kernel_rfl))
     ·exact .val (pA b2 0) rfl (by kernel_rfl) (fun w hM => (by kernel_rfl))
     ·exact .val (.slice q.A1 q.ds.length q.c1) rfl (by kernel_rfl) (fun w hM => rL rfl rfl ((hM.row 0 rfl).cells 0 1) (by kernel_rfl))
     ·exact .val (vN i) rfl (by kernel_rfl) (fun w hM => (by kernel_rfl))
     ·exact .val (.pointer (some (at7.add (i * 3)))) rfl (by kernel_rfl) (fun w hM => (rX (k := i) (s := 3) rfl rfl At7 rfl Tryz.underlying22 (by kernel_rfl) (by omega)))
     ·exact .val (.agg #[Str t7.nm, .bool t7.plain, .int .i64 t7.val]) rfl (by kernel_rfl) (fun w hM => rL rfl rfl ((ct7.on hM.below)) (by kernel_rfl))
     ·exact .val (.bool true) rfl (by kernel_rfl) (fun w hM => (oB (b := (!(decide (t6.nm = t7.nm) && decide (t6.plain = t7.plain) && decide ((t6.val : Int) = t7.val)))) (run_neqDcl rfl rfl rfl) h8))
     refine wp_cond_true (hK.get rfl) ?_
     refine wp_seq ?_
     refine rg1 (by kernel_rfl) ?_
     refine sP hK 4 (.bool false) (by kernel_rfl) (by kernel_rfl) fun a hK => ?_
     refine rps ?_
     refine wp_ret ?_
     exact ret_t hK rfl (u := (.bool false)) rfl (⟨by have hs : dcSame t6 t7 = false := (by have h9 := h8; unfold dcSame; revert h9; cases (decide (t6.nm = t7.nm) && decide (t6.plain = t7.plain) && decide (t6.val = t7.val)) <;> decide); unfold pgSame dcsEq; rw [hnd, ← hR.2, dcsSame_step ht6 ht7, hs]; rfl, hM.below⟩)
    ·refine rAn (F := fun w => Mem w0 w [.row b2 25 [.slice q.A1 q.ds.length q.c1, .slice q.A2 q.ts.length q.c2], .row b1 25 [.slice p.A1 p.ds.length p.c1, .slice p.A2 p.ts.length p.c2]]) hK [some (pA b1 0), some (.slice p.A1 p.ds.length p.c1), some (vN i), some (.pointer (some (at6.add (i * 3)))), some (.agg #[Str t6.nm, .bool t6.plain, .int .i64 t6.val]), some (pA b2 0), some (.slice q.A1 q.ds.length q.c1), some (vN i), some (.pointer (some (at7.add (i * 3)))), some (.agg #[Str t7.nm, .bool t7.plain, .int .i64 t7.val]), some (.bool false)] 11 (fun _ _ hb hm => hm.go hb) hM (by kernel_rfl) (by kernel_rfl) ⟨⟨⟨⟨⟨⟨⟨⟨⟨⟨⟨trivial, ?_⟩, ?_⟩, ?_⟩, ?_⟩, ?_⟩, ?_⟩, ?_⟩, ?_⟩, ?_⟩, ?_⟩, ?_⟩ [(40, .bool false), (27, .bool true), (22, .bool false), (4, .bool false), (3, pA b2 0), (2, pA b1 0), (0, vG p), (1, vG q), (5, vN i)] (by kernel_rfl) fun a w hK hM => ?_
     ·exact .val (pA b1 0) rfl (by kernel_rfl) (fun w hM => (by kernel_rfl))
     ·exact .val (.slice p.A1 p.ds.length p.c1) rfl (by kernel_rfl) (fun w hM => rL rfl rfl ((hM.row 1 rfl).cells 0 1) (by kernel_rfl))
     ·exact .val (vN i) rfl (by kernel_rfl) (fun w hM => (by kernel_rfl))
     ·exact .val (.pointer (some (at6.add (i * 3)))) rfl (by kernel_rfl) (fun w hM => (rX (k := i) (s := 3) rfl rfl At6 rfl Tryz.underlying22 (by kernel_rfl) (by omega)))
     ·exact .val (.agg #[Str t6.nm, .bool t6.plain, .int .i64 t6.val]) rfl (by kernel_rfl) (fun w hM => rL rfl rfl ((ct6.on hM.below)) (by kernel_rfl))
     ·exact .val (pA b2 0) rfl (by kernel_rfl) (fun w hM => (by kernel_rfl))
     ·exact .val (.slice q.A1 q.ds.length q.c1) rfl (by kernel_rfl) (fun w hM => rL rfl rfl ((hM.row 0 rfl).cells 0 1) (by kernel_rfl))
     ·exact .val (vN i) rfl (by kernel_rfl) (fun w hM => (by kernel_rfl))
     ·exact .val (.pointer (some (at7.add (i * 3)))) rfl (by kernel_rfl) (fun w hM => (rX (k := i) (s := 3) rfl rfl At7 rfl Tryz.underlying22 (by kernel_rfl) (by omega)))
     ·exact .val (.agg #[Str t7.nm, .bool t7.plain, .int .i64 t7.val]) rfl (by kernel_rfl) (fun w hM => rL rfl rfl ((ct7.on hM.below)) (by kernel_rfl))
     ·exact .val (.bool false) rfl (by kernel_rfl) (fun w hM => (oB (b := (!(decide (t6.nm = t7.nm) && decide (t6.plain = t7.plain) && decide ((t6.val : Int) = t7.val)))) (run_neqDcl rfl rfl rfl) h8))
     refine wp_cond_false (hK.get rfl) ?_
     refine wp_skip ?_
     refine rg3 (by kernel_rfl) ?_
     refine sM hK 28 5 (by kernel_rfl) (.inl rfl) rfl fun a hK => ?_
     refine sP hK 29 (.int .i64 (((i + 1) : Nat) : Int)) (by kernel_rfl) (run_addN (i := i) (j := 1) rfl rfl rfl (by omega)) fun a hK => ?_
     refine sM hK 5 29 (by kernel_rfl) (.inr rfl) rfl fun a hK => ?_
     refine rps ?_
     have hRn : (i + 1) ≤ p.ds.length ∧ dcsSame (p.ds.drop (i + 1)) (q.ds.drop (i + 1)) = dcsSame p.ds q.ds := ⟨by omega, by have hs : dcSame t6 t7 = true := (by have h9 := h8; unfold dcSame; revert h9; cases (decide (t6.nm = t7.nm) && decide (t6.plain = t7.plain) && decide (t6.val = t7.val)) <;> decide); rw [← hR.2, dcsSame_step ht6 ht7, hs, Bool.true_and]⟩
     have hmn : p.ds.length - (i + 1) < p.ds.length - i := by omega
     exact ⟨i + 1, hK.sub ⟨rfl, rfl, rfl, rfl, rfl, rfl, rfl, trivial⟩, hM, hRn, hmn⟩
   ·refine sP hK 27 (.bool false) (by kernel_rfl) (oB (b := (decide ((((i : Nat) : Int) : Int) < ((p.ds.length : Nat) : Int)))) (by kernel_rfl) (decide_eq_false h5)) fun a hK => ?_
    refine rps ?_
    refine wp_cond_false (hK.get rfl) ?_
    refine wp_exit (exit_then (exit_then (exit_here 0 ?_)))
    refine wp_seq ?_
    refine wp_seq ?_
    refine rg1 (by kernel_rfl) ?_
    refine sP hK 6 (.int .i64 0) (by kernel_rfl) (by kernel_rfl) fun a hK => ?_
    refine rps ?_
    refine wp_block ?_
    have hd : dcsSame p.ds q.ds = true := by rw [← hR.2, dcsSame_end (by omega)]
    refine wLX (fun x : Nat => [(27, .bool false), (22, .bool false), (4, .bool false), (3, pA b2 0), (2, pA b1 0), (0, vG p), (1, vG q), (5, vN i), (6, vN x)]) (fun x : Nat => [.row b2 25 [.slice q.A1 q.ds.length q.c1, .slice q.A2 q.ts.length q.c2], .row b1 25 [.slice p.A1 p.ds.length p.c1, .slice p.A2 p.ts.length p.c2]]) (fun x : Nat => x ≤ p.ts.length ∧ thsSame (p.ts.drop x) (q.ts.drop x) = thsSame p.ts q.ts) (fun x : Nat => p.ts.length - x) 0 (hK.sub ⟨rfl, rfl, rfl, rfl, rfl, rfl, rfl, rfl, rfl, trivial⟩) hM ⟨Nat.zero_le _, rfl⟩ ?_
    rintro k a w hK hM hR
    replace hK : Knows a 60 [(27, .bool false), (22, .bool false), (4, .bool false), (3, pA b2 0), (2, pA b1 0), (0, vG p), (1, vG q), (5, vN i), (6, vN k)] := hK
    replace hM : Mem w0 w [.row b2 25 [.slice q.A1 q.ds.length q.c1, .slice q.A2 q.ts.length q.c2], .row b1 25 [.slice p.A1 p.ds.length p.c1, .slice p.A2 p.ts.length p.c2]] := hM
    replace hR : k ≤ p.ts.length ∧ thsSame (p.ts.drop k) (q.ts.drop k) = thsSame p.ts q.ts := hR
    refine wp_seq ?_
    refine wp_seq ?_
    refine rg5 (by kernel_rfl) ?_
    refine sM hK 41 6 (by kernel_rfl) (.inl rfl) rfl fun a hK => ?_
    refine sP hK 42 (pA b1 1) (by kernel_rfl) (by kernel_rfl) fun a hK => ?_
    refine sL hK 43 (.slice p.A2 p.ts.length p.c2) (by kernel_rfl) rfl rfl ((hM.row 1 rfl).cells 1 1) (by kernel_rfl) fun a hK => ?_
    refine sP hK 44 (.int .i64 ((p.ts.length : Nat) : Int)) (by kernel_rfl) (by kernel_rfl) fun a hK => ?_
    by_cases h9 : (((k : Nat) : Int) : Int) < ((p.ts.length : Nat) : Int)
    ·refine sP hK 45 (.bool true) (by kernel_rfl) (oB (b := (decide ((((k : Nat) : Int) : Int) < ((p.ts.length : Nat) : Int)))) (by kernel_rfl) (decide_eq_true h9)) fun a hK => ?_
     refine rps ?_
     refine wp_cond_true (hK.get rfl) ?_
     refine wp_skip ?_
     refine wp_seq ?_
     refine wp_block ?_
     refine wp_seq ?_
     obtain ⟨t10, ht10⟩ : ∃ t, p.ts[(k : Nat)]? = some t := ⟨_, List.getElem?_eq_getElem (by omega)⟩
     obtain ⟨⟨at10, At10, ct10⟩, et10⟩ := hp.threads _ _ ht10; have nt10 := et10.2
     obtain ⟨t11, ht11⟩ : ∃ t, q.ts[(k : Nat)]? = some t := ⟨_, List.getElem?_eq_getElem (by omega)⟩
     obtain ⟨⟨at11, At11, ct11⟩, et11⟩ := hq.threads _ _ ht11; have nt11 := et11.2
     rcases Bool.eq_false_or_eq_true (smsEq t10.l t11.l) with h12 | h12
     ·refine rAn (F := fun w => Mem w0 w [.row b2 25 [.slice q.A1 q.ds.length q.c1, .slice q.A2 q.ts.length q.c2], .row b1 25 [.slice p.A1 p.ds.length p.c1, .slice p.A2 p.ts.length p.c2]]) hK [some (pA b1 1), some (.slice p.A2 p.ts.length p.c2), some (vN k), some (.pointer (some (at10.add (k * 1)))), some (.slice t10.A t10.l.length t10.c), some (pA b2 1), some (.slice q.A2 q.ts.length q.c2), some (vN k), some (.pointer (some (at11.add (k * 1)))), some (.slice t11.A t11.l.length t11.c), some (.bool true), some (.bool false)] 12 (fun _ _ hb hm => hm.go hb) hM (by kernel_rfl) (by kernel_rfl) ⟨⟨⟨⟨⟨⟨⟨⟨⟨⟨⟨⟨trivial, ?_⟩, ?_⟩, ?_⟩, ?_⟩, ?_⟩, ?_⟩, ?_⟩, ?_⟩, ?_⟩, ?_⟩, ?_⟩, ?_⟩ [(59, .bool false), (45, .bool true), (27, .bool false), (22, .bool false), (4, .bool false), (3, pA b2 0), (2, pA b1 0), (0, vG p), (1, vG q), (5, vN i), (6, vN k)] (by kernel_rfl) fun a w hK hM => ?_
      ·exact .val (pA b1 1) rfl (by kernel_rfl) (fun w hM => (by kernel_rfl))
      ·exact .val (.slice p.A2 p.ts.length p.c2) rfl (by kernel_rfl) (fun w hM => rL rfl rfl ((hM.row 1 rfl).cells 1 1) (by kernel_rfl))
      ·exact .val (vN k) rfl (by kernel_rfl) (fun w hM => (by kernel_rfl))
      ·exact .val (.pointer (some (at10.add (k * 1)))) rfl (by kernel_rfl) (fun w hM => (rX (k := k) (s := 1) rfl rfl At10 rfl Tryz.underlying23 (by kernel_rfl) (by omega)))
      ·exact .val (.slice t10.A t10.l.length t10.c) rfl (by kernel_rfl) (fun w hM => rL rfl rfl ((ct10.on hM.below)) (by kernel_rfl))
      ·exact .val (pA b2 1) rfl (by kernel_rfl) (fun w hM => (by kernel_rfl))
      ·exact .val (.slice q.A2 q.ts.length q.c2) rfl (by kernel_rfl) (fun w hM => rL rfl rfl ((hM.row 0 rfl).cells 1 1) (by kernel_rfl))
      ·exact .val (vN k) rfl (by kernel_rfl) (fun w hM => (by kernel_rfl))
      ·exact .val (.pointer (some (at11.add (k * 1)))) rfl (by kernel_rfl) (fun w hM => (rX (k := k) (s := 1) rfl rfl At11 rfl Tryz.underlying23 (by kernel_rfl) (by omega)))
      ·exact .val (.slice t11.A t11.l.length t11.c) rfl (by kernel_rfl) (fun w hM => rL rfl rfl ((ct11.on hM.below)) (by kernel_rfl))
      ·exact .call _ #[.slice t10.A t10.l.length t10.c, .slice t11.A t11.l.length t11.c] (.bool true) rfl (by kernel_rfl) (fun w => (rC en_cantileverref03_SameStmts rfl rfl (by kernel_rfl))) (fun w hM => ret_eq (ref_SameStmts t10.l t11.l _ _ _ _ _ (et10.1.on hM.below) (et11.1.on hM.below) (by omega) (by omega)) (congrArg Value.bool h12))
      ·exact .val (.bool false) rfl (by kernel_rfl) (fun w hM => (by kernel_rfl))
      refine wp_cond_false (hK.get rfl) ?_
      refine wp_skip ?_
      refine rg3 (by kernel_rfl) ?_
      refine sM hK 46 6 (by kernel_rfl) (.inl rfl) rfl fun a hK => ?_
      refine sP hK 47 (.int .i64 (((k + 1) : Nat) : Int)) (by kernel_rfl) (run_addN (i := k) (j := 1) rfl rfl rfl (by omega)) fun a hK => ?_
      refine sM hK 6 47 (by kernel_rfl) (.inr rfl) rfl fun a hK => ?_
      refine rps ?_
      have hRn : (k + 1) ≤ p.ts.length ∧ thsSame (p.ts.drop (k + 1)) (q.ts.drop (k + 1)) = thsSame p.ts q.ts := ⟨by omega, by have hs : smsEq t10.l t11.l = true := (by have h9 := h12; simpa using h9); rw [← hR.2, thsSame_step ht10 ht11, hs, Bool.true_and]⟩
      have hmn : p.ts.length - (k + 1) < p.ts.length - k := by omega
      exact ⟨k + 1, hK.sub ⟨rfl, rfl, rfl, rfl, rfl, rfl, rfl, rfl, rfl, trivial⟩, hM, hRn, hmn⟩
     ·refine rAn (F := fun w => Mem w0 w [.row b2 25 [.slice q.A1 q.ds.length q.c1, .slice q.A2 q.ts.length q.c2], .row b1 25 [.slice p.A1 p.ds.length p.c1, .slice p.A2 p.ts.length p.c2]]) hK [some (pA b1 1), some (.slice p.A2 p.ts.length p.c2), some (vN k), some (.pointer (some (at10.add (k * 1)))), some (.slice t10.A t10.l.length t10.c), some (pA b2 1), some (.slice q.A2 q.ts.length q.c2), some (vN k), some (.pointer (some (at11.add (k * 1)))), some (.slice t11.A t11.l.length t11.c), some (.bool false), some (.bool true)] 12 (fun _ _ hb hm => hm.go hb) hM (by kernel_rfl) (by kernel_rfl) ⟨⟨⟨⟨⟨⟨⟨⟨⟨⟨⟨⟨trivial, ?_⟩, ?_⟩, ?_⟩, ?_⟩, ?_⟩, ?_⟩, ?_⟩, ?_⟩, ?_⟩, ?_⟩, ?_⟩, ?_⟩ [(59, .bool true), (45, .bool true), (27, .bool false), (22, .bool false), (4, .bool false), (3, pA b2 0), (2, pA b1 0), (0, vG p), (1, vG q), (5, vN i), (6, vN k)] (by kernel_rfl) fun a w hK hM => ?_
      ·exact .val (pA b1 1) rfl (by kernel_rfl) (fun w hM => (by kernel_rfl))
      ·exact .val (.slice p.A2 p.ts.length p.c2) rfl (by kernel_rfl) (fun w hM => rL rfl rfl ((hM.row 1 rfl).cells 1 1) (by kernel_rfl))
      ·exact .val (vN k) rfl (by kernel_rfl) (fun w hM => (by kernel_rfl))
      ·exact .val (.pointer (some (at10.add (k * 1)))) rfl (by kernel_rfl) (fun w hM => (rX (k := k) (s := 1) rfl rfl At10 rfl Tryz.underlying23 (by kernel_rfl) (by omega)))
      ·exact .val (.slice t10.A t10.l.length t10.c) rfl (by kernel_rfl) (fun w hM => rL rfl rfl ((ct10.on hM.below)) (by kernel_rfl))
      ·exact .val (pA b2 1) rfl (by kernel_rfl) (fun w hM => (by kernel_rfl))
      ·exact .val (.slice q.A2 q.ts.length q.c2) rfl (by kernel_rfl) (fun w hM => rL rfl rfl ((hM.row 0 rfl).cells 1 1) (by kernel_rfl))
      ·exact .val (vN k) rfl (by kernel_rfl) (fun w hM => (by kernel_rfl))
      ·exact .val (.pointer (some (at11.add (k * 1)))) rfl (by kernel_rfl) (fun w hM => (rX (k := k) (s := 1) rfl rfl At11 rfl Tryz.underlying23 (by kernel_rfl) (by omega)))
      ·exact .val (.slice t11.A t11.l.length t11.c) rfl (by kernel_rfl) (fun w hM => rL rfl rfl ((ct11.on hM.below)) (by kernel_rfl))
      ·exact .call _ #[.slice t10.A t10.l.length t10.c, .slice t11.A t11.l.length t11.c] (.bool false) rfl (by kernel_rfl) (fun w => (rC en_cantileverref03_SameStmts rfl rfl (by kernel_rfl))) (fun w hM => ret_eq (ref_SameStmts t10.l t11.l _ _ _ _ _ (et10.1.on hM.below) (et11.1.on hM.below) (by omega) (by omega)) (congrArg Value.bool h12))
      ·exact .val (.bool true) rfl (by kernel_rfl) (fun w hM => (by kernel_rfl))
      refine wp_cond_true (hK.get rfl) ?_
      refine wp_seq ?_
      refine rg1 (by kernel_rfl) ?_
      refine sP hK 4 (.bool false) (by kernel_rfl) (by kernel_rfl) fun a hK => ?_
      refine rps ?_
      refine wp_ret ?_
      exact ret_t hK rfl (u := (.bool false)) rfl (⟨by have hs : smsEq t10.l t11.l = false := (by have h9 := h12; simpa using h9); unfold pgSame thsEq; rw [hnt, ← hR.2, thsSame_step ht10 ht11, hs]; exact (Bool.and_false _).symm ▸ rfl, hM.below⟩)
    ·refine sP hK 45 (.bool false) (by kernel_rfl) (oB (b := (decide ((((k : Nat) : Int) : Int) < ((p.ts.length : Nat) : Int)))) (by kernel_rfl) (decide_eq_false h9)) fun a hK => ?_
     refine rps ?_
     refine wp_cond_false (hK.get rfl) ?_
     refine wp_exit (exit_then (exit_then (exit_here 2 ?_)))
     refine wp_seq ?_
     refine rg1 (by kernel_rfl) ?_
     refine sP hK 4 (.bool true) (by kernel_rfl) (by kernel_rfl) fun a hK => ?_
     refine rps ?_
     refine wp_ret ?_
     exact ret_t hK rfl (u := (.bool true)) rfl (⟨by unfold pgSame dcsEq thsEq; rw [hnd, hnt, hd, ← hR.2, thsSame_end (by omega)]; rfl, hM.below⟩)
end Go.Proofs.YtiigncmpbkfhmaaGreatDoor
namespace Go.Proofs.YtiigncmpbkfhmaaGreatDoor
open Go Go.RowKit
def RowIn (F : List It) (t : TypeId) (A : Option Addr) (cs : List Value) : Prop := cs = [] ∨ ∃ b, A = some ⟨b, 0, none⟩ ∧ It.row b t cs ∈ F
theorem RowIn.mono {F G : List It} {t : TypeId} {A : Option Addr} {cs : List Value} (h : RowIn F t A cs) (hs : ∀ it ∈ F, it ∈ G) : RowIn G t A cs := h.imp id fun ⟨b, e, m⟩ => ⟨b, e, hs _ m⟩
inductive ExRows (F : List It) : Ex → Prop
  | mk (e : Ex) (hn : e.nm.length ≤ 9223372036854775807 ∧ e.ks.length ≤ 9223372036854775807) (h : RowIn F 28 e.A (e.ks.flatMap cE)) (h2 : ∀ x ∈ e.ks, ExRows F x) : ExRows F e
inductive SmRows (F : List It) : Sm → Prop
  | mk (s : Sm) (hn : s.nm.length ≤ 9223372036854775807 ∧ s.loc.length ≤ 9223372036854775807 ∧ s.es.length ≤ 9223372036854775807 ∧ s.th.length ≤ 9223372036854775807 ∧ s.el.length ≤ 9223372036854775807)
    (h1 : RowIn F 28 s.A1 (s.es.flatMap cE)) (he : ∀ x ∈ s.es, ExRows F x)
    (h2 : RowIn F 64 s.A2 (s.th.flatMap cS)) (ht : ∀ x ∈ s.th, SmRows F x)
    (h3 : RowIn F 64 s.A3 (s.el.flatMap cS)) (hl : ∀ x ∈ s.el, SmRows F x) : SmRows F s
theorem ExRows.mono {F G : List It} {e : Ex} (h : ExRows F e) (hs : ∀ it ∈ F, it ∈ G) : ExRows G e := by
  induction h with
  | mk e hn h h2 ih => exact .mk e hn (h.mono hs) ih
theorem SmRows.mono {F G : List It} {s : Sm} (h : SmRows F s) (hs : ∀ it ∈ F, it ∈ G) : SmRows G s := by
  induction h with
  | mk s hn h1 he h2 ht h3 hl ih1 ih2 => exact .mk s hn (h1.mono hs) (fun x hx => (he x hx).mono hs) (h2.mono hs) ih1 (h3.mono hs) ih2
theorem exs_in {w0 w : World} {F : List It} (hM : Mem w0 w F) {A : Option Addr} {l : List Ex} (h : RowIn F 28 A (l.flatMap cE)) (hx : ∀ x ∈ l, ExAt w x) : ExsAt w A l := by
  rcases h with h | ⟨b, rfl, hm⟩
  · have : l = [] := by
      cases l with
      | nil => rfl
      | cons x r => simp [cE] at h
    subst this; exact exs_nil _ _
  · exact exs_row (hM.each _ hm).2 hx
theorem sms_in {w0 w : World} {F : List It} (hM : Mem w0 w F) {A : Option Addr} {l : List Sm} (h : RowIn F 64 A (l.flatMap cS)) (hx : ∀ x ∈ l, SmAt w x) : SmsAt w A l := by
  rcases h with h | ⟨b, rfl, hm⟩
  · have : l = [] := by
      cases l with
      | nil => rfl
      | cons x r => simp [cS] at h
    subst this; exact sms_nil _ _
  · exact sms_row (hM.each _ hm).2 hx
theorem ExRows.at {w0 w : World} {F : List It} (hM : Mem w0 w F) {e : Ex} (h : ExRows F e) : ExAt w e := by
  induction h with
  | mk e hn h h2 ih =>
    have hk := exs_in hM h ih
    exact .mk e hn (fun k x hx => (hk k x hx).1) fun k x hx => (hk k x hx).2
theorem SmRows.at {w0 w : World} {F : List It} (hM : Mem w0 w F) {s : Sm} (h : SmRows F s) : SmAt w s := by
  induction h with
  | mk s hn h1 he h2 ht h3 hl ih1 ih2 =>
    have k1 := exs_in hM h1 fun x hx => (he x hx).at hM
    have k2 := sms_in hM h2 ih1
    have k3 := sms_in hM h3 ih2
    exact .mk s hn k1 (fun k x hx => (k2 k x hx).1) (fun k x hx => (k2 k x hx).2) (fun k x hx => (k3 k x hx).1) fun k x hx => (k3 k x hx).2
structure PgRows (F : List It) (p : Pg) : Prop where
  decls : RowIn F 48 p.A1 (p.ds.flatMap cD)
  dlen : ∀ d ∈ p.ds, d.nm.length ≤ 9223372036854775807
  threads : RowIn F 38 p.A2 (p.ts.flatMap cT)
  lists : ∀ t ∈ p.ts, RowIn F 64 t.A (t.l.flatMap cS) ∧ (∀ s ∈ t.l, SmRows F s) ∧ t.l.length ≤ 9223372036854775807
  len : p.ds.length ≤ 9223372036854775807 ∧ p.ts.length ≤ 9223372036854775807
theorem rows_at {α : Type} {w0 w : World} {F : List It} (hM : Mem w0 w F) {t : TypeId} {A : Option Addr} {f : α → List Value} {s : Nat} (hf : ∀ x, (f x).length = s) (hs : 0 < s) {l : List α} (h : RowIn F t A (l.flatMap f)) {k : Nat} {x : α} (hk : l[k]? = some x) : ∃ a, A = some a ∧ CellsAt w (a.add (k * s)) (f x) := by
  rcases h with h | ⟨b, rfl, hm⟩
  · exfalso
    have h1 := List.flatMap_eq_nil_iff.1 h x (List.mem_of_getElem? hk)
    have h2 := hf x
    rw [h1] at h2
    simp at h2
    omega
  · exact ⟨_, rfl, ((hM.each _ hm).2.atCells (k * s) s).to (flat_at (f := f) (s := s) hf hk)⟩
theorem PgRows.at {w0 w : World} {F : List It} (hM : Mem w0 w F) {p : Pg} (h : PgRows F p) : PgAt w p where
  decls := fun _ d hk => ⟨rows_at (s := 3) hM (fun _ => rfl) (by decide) h.decls hk, h.dlen d (List.mem_of_getElem? hk)⟩
  threads := fun _ t hk => (by
    obtain ⟨h1, h2, h3⟩ := h.lists t (List.mem_of_getElem? hk)
    exact ⟨rows_at (s := 1) hM (fun _ => rfl) (by decide) h.threads hk, sms_in hM h1 fun s hs => (h2 s hs).at hM, h3⟩)
  len := h.len
theorem PgRows.mono {F G : List It} {p : Pg} (h : PgRows F p) (hs : ∀ it ∈ F, it ∈ G) : PgRows G p where
  decls := h.decls.mono hs
  dlen := h.dlen
  threads := h.threads.mono hs
  lists := fun t ht => ⟨(h.lists t ht).1.mono hs, fun s h2 => ((h.lists t ht).2.1 s h2).mono hs, (h.lists t ht).2.2⟩
  len := h.len
end Go.Proofs.YtiigncmpbkfhmaaGreatDoor
