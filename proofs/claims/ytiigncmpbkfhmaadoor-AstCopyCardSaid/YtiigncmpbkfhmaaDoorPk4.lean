/-
  What AstCopyCard stands on, part 4.
-/
import Derived.Test.YtiigncmpbkfhmaaDoorPk3
namespace Go.Proofs.YtiigncmpbkfhmaaDoor
open Go Go.RowKit
theorem same_sm (s t : Sm) : s.same t = (decide (s.kind = t.kind) && (decide (s.nm = t.nm) && (decide (s.loc = t.loc) && (decide (s.ord = t.ord) && (exsEq s.es t.es && (smsEq s.th t.th && smsEq s.el t.el)))))) := by
 rw [sm_same]
 unfold smNe exsEq neI neS
 cases decide (s.kind = t.kind) <;> cases decide (s.nm = t.nm) <;> cases decide (s.loc = t.loc) <;> cases decide (s.ord = t.ord) <;> cases decide (((s.es.length : Nat) : Int) = ((t.es.length : Nat) : Int)) <;> cases exsSame s.es t.es <;> cases smsEq s.th t.th <;> cases smsEq s.el t.el <;> rfl
theorem same_sm2 (s t : Sm) : s.same t = (!(!(decide (s.kind = t.kind)) || (!(decide (s.nm = t.nm)) || (!(decide (s.loc = t.loc)) || (!(decide (s.ord = t.ord)) || (!(exsEq s.es t.es) || (!(smsEq s.th t.th) || !(smsEq s.el t.el)))))))) := by
 rw [same_sm]
 cases decide (s.kind = t.kind) <;> cases decide (s.nm = t.nm) <;> cases decide (s.loc = t.loc) <;> cases decide (s.ord = t.ord) <;> cases exsEq s.es t.es <;> cases smsEq s.th t.th <;> cases smsEq s.el t.el <;> rfl
theorem en_eq_Stmt : Enters Tryd.prog 77 := enters_of Tryd.func77 (by kernel_rfl) rfl
theorem en_cantileverkit_Stmts : Enters Tryd.prog 54 := enters_of Tryd.func54 (by kernel_rfl) rfl
theorem en_ast_sameStmt : Enters Tryd.prog 78 := enters_of Tryd.func78 (by kernel_rfl) rfl
theorem en_ast_sameStmts : Enters Tryd.prog 53 := enters_of Tryd.func53 (by kernel_rfl) rfl
set_option maxRecDepth 100000 in
set_option maxHeartbeats 4000000 in
theorem kit_Stmts (l : List Sm) : ∀ (m : List Sm) (A : Option Addr) (c : Nat) (B : Option Addr) (d : Nat) (w0 : World), SmsAt w0 A l → SmsAt w0 B m → l.length ≤ 9223372036854775807 → m.length ≤ 9223372036854775807 → Calls Tryd.prog 54 #[.slice A l.length c, .slice B m.length d] w0 (Ret w0 (.bool (smsEq l m))) := by
 induction l using sms_rec
 rename_i l ih
 intro m A c B d w0 hl hm hln hmn
 refine calls_K (args := [.slice A l.length c, .slice B m.length d]) (n := 77) (env := [(0, .slice A l.length c), (1, .slice B m.length d)]) Tryd.func54 rfl rfl rfl ⟨rfl, rfl, trivial⟩ fun a w hK hM => ?_
 refine wp_seq ?_
 refine region_go (lst := [0]) (by kernel_rfl) ?_
 refine stepP hK 4 (.bool false) (by kernel_rfl) (by kernel_rfl) fun a hK => ?_
 refine region_done hK [(4, .bool false), (0, .slice A l.length c), (1, .slice B m.length d)] ⟨rfl, rfl, rfl, trivial⟩ fun a hK => ?_
 refine wp_seq ?_
 refine wp_seq ?_
 refine region_go (lst := [0, 1, 2, 3, 4]) (by kernel_rfl) ?_
 refine stepM hK 8 0 (by kernel_rfl) (.inl rfl) rfl fun a hK => ?_
 refine stepP hK 9 (.int .i64 ((l.length : Nat) : Int)) (by kernel_rfl) (by kernel_rfl) fun a hK => ?_
 refine stepM hK 10 1 (by kernel_rfl) (.inl rfl) rfl fun a hK => ?_
 refine stepP hK 11 (.int .i64 ((m.length : Nat) : Int)) (by kernel_rfl) (by kernel_rfl) fun a hK => ?_
 rcases Bool.eq_false_or_eq_true (!(decide ((((l.length : Nat) : Int) : Int) = ((m.length : Nat) : Int)))) with h1 | h1
 ·refine stepP hK 12 (.bool true) (by kernel_rfl) (okBool (b := (!(decide ((((l.length : Nat) : Int) : Int) = ((m.length : Nat) : Int))))) (by kernel_rfl) h1) fun a hK => ?_
  refine region_done hK [(12, .bool true), (4, .bool false), (0, .slice A l.length c), (1, .slice B m.length d)] ⟨rfl, rfl, rfl, rfl, trivial⟩ fun a hK => ?_
  refine wp_cond_true (hK.get rfl) ?_
  refine wp_seq ?_
  refine region_go (lst := [0]) (by kernel_rfl) ?_
  refine stepP hK 4 (.bool false) (by kernel_rfl) (by kernel_rfl) fun a hK => ?_
  refine region_done hK [(4, .bool false), (12, .bool true), (0, .slice A l.length c), (1, .slice B m.length d)] ⟨rfl, rfl, rfl, rfl, trivial⟩ fun a hK => ?_
  refine wp_ret ?_
  exact ret_t hK rfl (u := (.bool false)) rfl (⟨by unfold smsEq neI; rw [h1]; rfl, hM.below⟩)
 ·refine stepP hK 12 (.bool false) (by kernel_rfl) (okBool (b := (!(decide ((((l.length : Nat) : Int) : Int) = ((m.length : Nat) : Int))))) (by kernel_rfl) h1) fun a hK => ?_
  refine region_done hK [(12, .bool false), (4, .bool false), (0, .slice A l.length c), (1, .slice B m.length d)] ⟨rfl, rfl, rfl, rfl, trivial⟩ fun a hK => ?_
  refine wp_cond_false (hK.get rfl) ?_
  refine wp_skip ?_
  refine wp_seq ?_
  refine wp_seq ?_
  have hne : neI ((l.length : Nat) : Int) ((m.length : Nat) : Int) = false := by unfold neI; rw [h1]
  have hlen : l.length = m.length := by have q := h1; simp at q; omega
  refine region_go (lst := [0]) (by kernel_rfl) ?_
  refine stepP hK 5 (.int .i64 0) (by kernel_rfl) (by kernel_rfl) fun a hK => ?_
  refine region_done hK [(5, .int .i64 0), (12, .bool false), (4, .bool false), (0, .slice A l.length c), (1, .slice B m.length d)] ⟨rfl, rfl, rfl, rfl, rfl, trivial⟩ fun a hK => ?_
  refine wp_block ?_
  refine wp_loopX (fun x : Nat => [(12, .bool false), (4, .bool false), (0, .slice A l.length c), (1, .slice B m.length d), (5, vN x)]) (fun x : Nat => []) (fun x : Nat => x ≤ l.length ∧ smsSame (l.drop x) (m.drop x) = smsSame l m) (fun x : Nat => l.length - x) 0 (hK.sub ⟨rfl, rfl, rfl, rfl, rfl, trivial⟩) hM ⟨Nat.zero_le _, rfl⟩ ?_
  rintro i a w hK hM hR
  replace hK : Knows a 77 [(12, .bool false), (4, .bool false), (0, .slice A l.length c), (1, .slice B m.length d), (5, vN i)] := hK
  replace hM : Mem w0 w [] := hM
  replace hR : i ≤ l.length ∧ smsSame (l.drop i) (m.drop i) = smsSame l m := hR
  refine wp_seq ?_
  refine wp_seq ?_
  refine region_go (lst := [0, 1, 2, 3]) (by kernel_rfl) ?_
  refine stepM hK 13 5 (by kernel_rfl) (.inl rfl) rfl fun a hK => ?_
  refine stepM hK 14 0 (by kernel_rfl) (.inl rfl) rfl fun a hK => ?_
  refine stepP hK 15 (.int .i64 ((l.length : Nat) : Int)) (by kernel_rfl) (by kernel_rfl) fun a hK => ?_
  by_cases h2 : (((i : Nat) : Int) : Int) < ((l.length : Nat) : Int)
  ·refine stepP hK 16 (.bool true) (by kernel_rfl) (okBool (b := (decide ((((i : Nat) : Int) : Int) < ((l.length : Nat) : Int)))) (by kernel_rfl) (decide_eq_true h2)) fun a hK => ?_
   refine region_done hK [(16, .bool true), (12, .bool false), (4, .bool false), (0, .slice A l.length c), (1, .slice B m.length d), (5, vN i)] ⟨rfl, rfl, rfl, rfl, rfl, rfl, trivial⟩ fun a hK => ?_
   refine wp_cond_true (hK.get rfl) ?_
   refine wp_skip ?_
   refine wp_seq ?_
   refine wp_block ?_
   refine wp_seq ?_
   obtain ⟨t3, ht3⟩ : ∃ t, l[(i : Nat)]? = some t := ⟨_, List.getElem?_eq_getElem (by omega)⟩
   obtain ⟨⟨at3, At3, ct3⟩, et3⟩ := hl _ _ ht3; have nt3 := et3.len
   obtain ⟨t4, ht4⟩ : ∃ t, m[(i : Nat)]? = some t := ⟨_, List.getElem?_eq_getElem (by omega)⟩
   obtain ⟨⟨at4, At4, ct4⟩, et4⟩ := hm _ _ ht4; have nt4 := et4.len
   refine region_made_strip (F := fun w => Mem w0 w []) hK hM [.val (.slice A l.length c), .val (vN i), .val (.pointer (some (at3.add (i * 7)))), .val (vS t3), .val (.slice B m.length d), .val (vN i), .val (.pointer (some (at4.add (i * 7)))), .val (vS t4), .lay 30 [.int .i64 0, Str [], Str [], .int .i64 0, .slice none 0 0, .slice none 0 0, .slice none 0 0], .lay 30 [.int .i64 0, Str [], Str [], .int .i64 0, .slice none 0 0, .slice none 0 0, .slice none 0 0], .put 8 (cS t3), .put 9 (cS t4)] 12 (fun _ h => h) (by kernel_rfl) (by kernel_rfl) ⟨⟨⟨⟨⟨⟨⟨⟨⟨⟨⟨⟨trivial, ?_⟩, ?_⟩, ?_⟩, ?_⟩, ?_⟩, ?_⟩, ?_⟩, ?_⟩, ?_⟩, ?_⟩, ?_⟩, ?_⟩ (fun β => [(7, .pointer (some ⟨(β 9), 0, none⟩)), (6, .pointer (some ⟨(β 8), 0, none⟩)), (16, .bool true), (12, .bool false), (4, .bool false), (0, .slice A l.length c), (1, .slice B m.length d), (5, vN i)]) (fun β => by kernel_rfl) ?_
   ·exact .val (.slice A l.length c) rfl (fun β => by kernel_rfl) (fun β w hM => (by kernel_rfl))
   ·exact .val (vN i) rfl (fun β => by kernel_rfl) (fun β w hM => (by kernel_rfl))
   ·exact .val (.pointer (some (at3.add (i * 7)))) rfl (fun β => by kernel_rfl) (fun β w hM => (run_ixA (k := i) (s := 7) rfl rfl At3 rfl Tryd.underlying28 (by kernel_rfl) (by omega)))
   ·exact .val (vS t3) rfl (fun β => by kernel_rfl) (fun β w hM => run_loadE rfl rfl ((ct3.on hM.below)) (by kernel_rfl))
   ·exact .val (.slice B m.length d) rfl (fun β => by kernel_rfl) (fun β w hM => (by kernel_rfl))
   ·exact .val (vN i) rfl (fun β => by kernel_rfl) (fun β w hM => (by kernel_rfl))
   ·exact .val (.pointer (some (at4.add (i * 7)))) rfl (fun β => by kernel_rfl) (fun β w hM => (run_ixA (k := i) (s := 7) rfl rfl At4 rfl Tryd.underlying28 (by kernel_rfl) (by omega)))
   ·exact .val (vS t4) rfl (fun β => by kernel_rfl) (fun β w hM => run_loadE rfl rfl ((ct4.on hM.below)) (by kernel_rfl))
   ·exact .lay 30 [.int .i64 0, Str [], Str [], .int .i64 0, .slice none 0 0, .slice none 0 0, .slice none 0 0] rfl (fun β => by kernel_rfl) (fun β w => by kernel_rfl)
   ·exact .lay 30 [.int .i64 0, Str [], Str [], .int .i64 0, .slice none 0 0, .slice none 0 0, .slice none 0 0] rfl (fun β => by kernel_rfl) (fun β w => by kernel_rfl)
   ·exact .put 8 30 [.int .i64 0, Str [], Str [], .int .i64 0, .slice none 0 0, .slice none 0 0, .slice none 0 0] (cS t3) 30 _ _ (vS t3) rfl rfl (fun β => by kernel_rfl) rfl (fun β => rfl) (fun β => rfl) (by kernel_rfl) (by kernel_rfl) (by kernel_rfl)
   ·exact .put 9 30 [.int .i64 0, Str [], Str [], .int .i64 0, .slice none 0 0, .slice none 0 0, .slice none 0 0] (cS t4) 30 _ _ (vS t4) rfl rfl (fun β => by kernel_rfl) rfl (fun β => rfl) (fun β => rfl) (by kernel_rfl) (by kernel_rfl) (by kernel_rfl)
   intro β7 a w hK hM
   have hK2 := hK; have hM2 := hM; clear hK hM
   have hK : Knows a 77 [(7, .pointer (some ⟨(β7 9), 0, none⟩)), (6, .pointer (some ⟨(β7 8), 0, none⟩)), (16, .bool true), (12, .bool false), (4, .bool false), (0, .slice A l.length c), (1, .slice B m.length d), (5, vN i)] := hK2
   have hM := hM2.to [.row (β7 8) 30 (cS t3), .row (β7 9) 30 (cS t4)] (by kernel_rfl)
   clear hK2 hM2
   generalize β7 8 = b5 at hK hM
   generalize β7 9 = b6 at hK hM
   refine wp_seq ?_
   refine region_go (lst := [0, 1, 2, 3, 4, 5, 6, 7, 8, 9, 10, 11, 12, 13, 14, 15, 16, 17, 18, 19, 20, 21, 22, 23, 24, 25, 26, 27, 28, 29, 30, 31, 32, 33, 34, 35, 36, 37, 38, 39, 40, 41, 42, 43, 44, 45, 46, 47, 48, 49]) (by kernel_rfl) ?_
   refine stepP hK 27 (pA b5 0) (by kernel_rfl) (by kernel_rfl) fun a hK => ?_
   refine stepLoad hK 28 (.int .i64 t3.kind) (by kernel_rfl) rfl rfl ((hM.row 0 rfl).cells 0 1) (by kernel_rfl) fun a hK => ?_
   refine stepP hK 29 (pA b6 0) (by kernel_rfl) (by kernel_rfl) fun a hK => ?_
   refine stepLoad hK 30 (.int .i64 t4.kind) (by kernel_rfl) rfl rfl ((hM.row 1 rfl).cells 0 1) (by kernel_rfl) fun a hK => ?_
   rcases Bool.eq_false_or_eq_true (!(decide ((t3.kind : Int) = t4.kind))) with h8 | h8
   ·refine stepP hK 31 (.bool true) (by kernel_rfl) (okBool (b := (!(decide ((t3.kind : Int) = t4.kind)))) (by kernel_rfl) h8) fun a hK => ?_
    refine stepM hK 32 31 (by kernel_rfl) (.inl rfl) rfl fun a hK => ?_
    refine stepN hK 33 (by kernel_rfl) fun a hK => ?_
    refine stepN hK 34 (by kernel_rfl) fun a hK => ?_
    refine stepN hK 35 (by kernel_rfl) fun a hK => ?_
    refine stepN hK 36 (by kernel_rfl) fun a hK => ?_
    refine stepN hK 37 (by kernel_rfl) fun a hK => ?_
    refine stepP hK 38 (.bool true) (by kernel_rfl) (by kernel_rfl) fun a hK => ?_
    refine stepM hK 39 38 (by kernel_rfl) (.inl rfl) rfl fun a hK => ?_
    refine stepN hK 40 (by kernel_rfl) fun a hK => ?_
    refine stepN hK 41 (by kernel_rfl) fun a hK => ?_
    refine stepN hK 42 (by kernel_rfl) fun a hK => ?_
    refine stepN hK 43 (by kernel_rfl) fun a hK => ?_
    refine stepN hK 44 (by kernel_rfl) fun a hK => ?_
    refine stepP hK 45 (.bool true) (by kernel_rfl) (by kernel_rfl) fun a hK => ?_
    refine stepM hK 46 45 (by kernel_rfl) (.inl rfl) rfl fun a hK => ?_
    refine stepN hK 47 (by kernel_rfl) fun a hK => ?_
    refine stepN hK 48 (by kernel_rfl) fun a hK => ?_
    refine stepN hK 49 (by kernel_rfl) fun a hK => ?_
    refine stepN hK 50 (by kernel_rfl) fun a hK => ?_
    refine stepN hK 51 (by kernel_rfl) fun a hK => ?_
    refine stepP hK 52 (.bool true) (by kernel_rfl) (by kernel_rfl) fun a hK => ?_
    refine stepM hK 53 52 (by kernel_rfl) (.inl rfl) rfl fun a hK => ?_
    refine stepN hK 54 (by kernel_rfl) fun a hK => ?_
    refine stepN hK 55 (by kernel_rfl) fun a hK => ?_
    refine stepN hK 56 (by kernel_rfl) fun a hK => ?_
    refine stepN hK 57 (by kernel_rfl) fun a hK => ?_
    refine stepN hK 58 (by kernel_rfl) fun a hK => ?_
    refine stepN hK 59 (by kernel_rfl) fun a hK => ?_
    refine stepP hK 60 (.bool true) (by kernel_rfl) (by kernel_rfl) fun a hK => ?_
    refine stepM hK 61 60 (by kernel_rfl) (.inl rfl) rfl fun a hK => ?_
    refine stepN hK 62 (by kernel_rfl) fun a hK => ?_
    refine stepN hK 63 (by kernel_rfl) fun a hK => ?_
    refine stepN hK 64 (by kernel_rfl) fun a hK => ?_
    refine stepN hK 65 (by kernel_rfl) fun a hK => ?_
    refine stepN hK 66 (by kernel_rfl) fun a hK => ?_
    refine stepN hK 67 (by kernel_rfl) fun a hK => ?_
    refine stepP hK 68 (.bool true) (by kernel_rfl) (by kernel_rfl) fun a hK => ?_
    refine stepM hK 69 68 (by kernel_rfl) (.inl rfl) rfl fun a hK => ?_
    refine stepN hK 70 (by kernel_rfl) fun a hK => ?_
    refine stepN hK 71 (by kernel_rfl) fun a hK => ?_
    refine stepN hK 72 (by kernel_rfl) fun a hK => ?_
    refine stepN hK 73 (by kernel_rfl) fun a hK => ?_
    refine stepN hK 74 (by kernel_rfl) fun a hK => ?_
    refine stepN hK 75 (by kernel_rfl) fun a hK => ?_
    refine stepP hK 76 (.bool true) (by kernel_rfl) (by kernel_rfl) fun a hK => ?_
    refine region_done hK [(76, .bool true), (7, pA b6 0), (6, pA b5 0), (16, .bool true), (12, .bool false), (4, .bool false), (0, .slice A l.length c), (1, .slice B m.length d), (5, vN i)] ⟨rfl, rfl, rfl, rfl, rfl, rfl, rfl, rfl, rfl, trivial⟩ fun a hK => ?_
    refine wp_cond_true (hK.get rfl) ?_
    refine wp_seq ?_
    refine region_go (lst := [0]) (by kernel_rfl) ?_
    refine stepP hK 4 (.bool false) (by kernel_rfl) (by kernel_rfl) fun a hK => ?_
    refine region_done hK [(4, .bool false), (76, .bool true), (7, pA b6 0), (6, pA b5 0), (16, .bool true), (12, .bool false), (0, .slice A l.length c), (1, .slice B m.length d), (5, vN i)] ⟨rfl, rfl, rfl, rfl, rfl, rfl, rfl, rfl, rfl, trivial⟩ fun a hK => ?_
    refine wp_ret ?_
    exact ret_t hK rfl (u := (.bool false)) rfl (⟨by have hs : t3.same t4 = false := (by rw [same_sm2, h8]; rfl); unfold smsEq; rw [hne, ← hR.2, smsSame_step ht3 ht4, hs]; rfl, hM.below⟩)
   ·refine stepP hK 31 (.bool false) (by kernel_rfl) (okBool (b := (!(decide ((t3.kind : Int) = t4.kind)))) (by kernel_rfl) h8) fun a hK => ?_
    refine stepM hK 32 31 (by kernel_rfl) (.inl rfl) rfl fun a hK => ?_
    refine stepP hK 33 (pA b5 1) (by kernel_rfl) (by kernel_rfl) fun a hK => ?_
    refine stepLoad hK 34 (Str t3.nm) (by kernel_rfl) rfl rfl ((hM.row 0 rfl).cells 1 1) (by kernel_rfl) fun a hK => ?_
    refine stepP hK 35 (pA b6 1) (by kernel_rfl) (by kernel_rfl) fun a hK => ?_
    refine stepLoad hK 36 (Str t4.nm) (by kernel_rfl) rfl rfl ((hM.row 1 rfl).cells 1 1) (by kernel_rfl) fun a hK => ?_
    rcases Bool.eq_false_or_eq_true (!(decide (t3.nm = t4.nm))) with h9 | h9
    ·refine stepP hK 37 (.bool true) (by kernel_rfl) (okBool (b := (!(decide (t3.nm = t4.nm)))) (run_neS rfl rfl rfl) h9) fun a hK => ?_
     refine stepP hK 38 (.bool true) (by kernel_rfl) (by kernel_rfl) fun a hK => ?_
     refine stepM hK 39 38 (by kernel_rfl) (.inl rfl) rfl fun a hK => ?_
     refine stepN hK 40 (by kernel_rfl) fun a hK => ?_
     refine stepN hK 41 (by kernel_rfl) fun a hK => ?_
     refine stepN hK 42 (by kernel_rfl) fun a hK => ?_
     refine stepN hK 43 (by kernel_rfl) fun a hK => ?_
     refine stepN hK 44 (by kernel_rfl) fun a hK => ?_
     refine stepP hK 45 (.bool true) (by kernel_rfl) (by kernel_rfl) fun a hK => ?_
     refine stepM hK 46 45 (by kernel_rfl) (.inl rfl) rfl fun a hK => ?_
     refine stepN hK 47 (by kernel_rfl) fun a hK => ?_
     refine stepN hK 48 (by kernel_rfl) fun a hK => ?_
     refine stepN hK 49 (by kernel_rfl) fun a hK => ?_
     refine stepN hK 50 (by kernel_rfl) fun a hK => ?_
     refine stepN hK 51 (by kernel_rfl) fun a hK => ?_
     refine stepP hK 52 (.bool true) (by kernel_rfl) (by kernel_rfl) fun a hK => ?_
     refine stepM hK 53 52 (by kernel_rfl) (.inl rfl) rfl fun a hK => ?_
     refine stepN hK 54 (by kernel_rfl) fun a hK => ?_
     refine stepN hK 55 (by kernel_rfl) fun a hK => ?_
     refine stepN hK 56 (by kernel_rfl) fun a hK => ?_
     refine stepN hK 57 (by kernel_rfl) fun a hK => ?_
     refine stepN hK 58 (by kernel_rfl) fun a hK => ?_
     refine stepN hK 59 (by kernel_rfl) fun a hK => ?_
     refine stepP hK 60 (.bool true) (by kernel_rfl) (by kernel_rfl) fun a hK => ?_
     refine stepM hK 61 60 (by kernel_rfl) (.inl rfl) rfl fun a hK => ?_
     refine stepN hK 62 (by kernel_rfl) fun a hK => ?_
     refine stepN hK 63 (by kernel_rfl) fun a hK => ?_
     refine stepN hK 64 (by kernel_rfl) fun a hK => ?_
     refine stepN hK 65 (by kernel_rfl) fun a hK => ?_
     refine stepN hK 66 (by kernel_rfl) fun a hK => ?_
     refine stepN hK 67 (by kernel_rfl) fun a hK => ?_
     refine stepP hK 68 (.bool true) (by kernel_rfl) (by kernel_rfl) fun a hK => ?_
     refine stepM hK 69 68 (by kernel_rfl) (.inl rfl) rfl fun a hK => ?_
     refine stepN hK 70 (by kernel_rfl) fun a hK => ?_
     refine stepN hK 71 (by kernel_rfl) fun a hK => ?_
     refine stepN hK 72 (by kernel_rfl) fun a hK => ?_
     refine stepN hK 73 (by kernel_rfl) fun a hK => ?_
     refine stepN hK 74 (by kernel_rfl) fun a hK => ?_
     refine stepN hK 75 (by kernel_rfl) fun a hK => ?_
     refine stepP hK 76 (.bool true) (by kernel_rfl) (by kernel_rfl) fun a hK => ?_
     refine region_done hK [(76, .bool true), (7, pA b6 0), (6, pA b5 0), (16, .bool true), (12, .bool false), (4, .bool false), (0, .slice A l.length c), (1, .slice B m.length d), (5, vN i)] ⟨rfl, rfl, rfl, rfl, rfl, rfl, rfl, rfl, rfl, trivial⟩ fun a hK => ?_
     refine wp_cond_true (hK.get rfl) ?_
     refine wp_seq ?_
     refine region_go (lst := [0]) (by kernel_rfl) ?_
     refine stepP hK 4 (.bool false) (by kernel_rfl) (by kernel_rfl) fun a hK => ?_
     refine region_done hK [(4, .bool false), (76, .bool true), (7, pA b6 0), (6, pA b5 0), (16, .bool true), (12, .bool false), (0, .slice A l.length c), (1, .slice B m.length d), (5, vN i)] ⟨rfl, rfl, rfl, rfl, rfl, rfl, rfl, rfl, rfl, trivial⟩ fun a hK => ?_
     refine wp_ret ?_
     exact ret_t hK rfl (u := (.bool false)) rfl (⟨by have hs : t3.same t4 = false := (by rw [same_sm2, h8, h9]; rfl); unfold smsEq; rw [hne, ← hR.2, smsSame_step ht3 ht4, hs]; rfl, hM.below⟩)
    ·refine stepP hK 37 (.bool false) (by kernel_rfl) (okBool (b := (!(decide (t3.nm = t4.nm)))) (run_neS rfl rfl rfl) h9) fun a hK => ?_
     refine stepP hK 38 (.bool false) (by kernel_rfl) (by kernel_rfl) fun a hK => ?_
     refine stepM hK 39 38 (by kernel_rfl) (.inl rfl) rfl fun a hK => ?_
     refine stepP hK 40 (pA b5 2) (by kernel_rfl) (by kernel_rfl) fun a hK => ?_
     refine stepLoad hK 41 (Str t3.loc) (by kernel_rfl) rfl rfl ((hM.row 0 rfl).cells 2 1) (by kernel_rfl) fun a hK => ?_
     refine stepP hK 42 (pA b6 2) (by kernel_rfl) (by kernel_rfl) fun a hK => ?_
     refine stepLoad hK 43 (Str t4.loc) (by kernel_rfl) rfl rfl ((hM.row 1 rfl).cells 2 1) (by kernel_rfl) fun a hK => ?_
     rcases Bool.eq_false_or_eq_true (!(decide (t3.loc = t4.loc))) with h10 | h10
     ·refine stepP hK 44 (.bool true) (by kernel_rfl) (okBool (b := (!(decide (t3.loc = t4.loc)))) (run_neS rfl rfl rfl) h10) fun a hK => ?_
      refine stepP hK 45 (.bool true) (by kernel_rfl) (by kernel_rfl) fun a hK => ?_
      refine stepM hK 46 45 (by kernel_rfl) (.inl rfl) rfl fun a hK => ?_
      refine stepN hK 47 (by kernel_rfl) fun a hK => ?_
      refine stepN hK 48 (by kernel_rfl) fun a hK => ?_
      refine stepN hK 49 (by kernel_rfl) fun a hK => ?_
      refine stepN hK 50 (by kernel_rfl) fun a hK => ?_
      refine stepN hK 51 (by kernel_rfl) fun a hK => ?_
      refine stepP hK 52 (.bool true) (by kernel_rfl) (by kernel_rfl) fun a hK => ?_
      refine stepM hK 53 52 (by kernel_rfl) (.inl rfl) rfl fun a hK => ?_
      refine stepN hK 54 (by kernel_rfl) fun a hK => ?_
      refine stepN hK 55 (by kernel_rfl) fun a hK => ?_
      refine stepN hK 56 (by kernel_rfl) fun a hK => ?_
      refine stepN hK 57 (by kernel_rfl) fun a hK => ?_
      refine stepN hK 58 (by kernel_rfl) fun a hK => ?_
      refine stepN hK 59 (by kernel_rfl) fun a hK => ?_
      refine stepP hK 60 (.bool true) (by kernel_rfl) (by kernel_rfl) fun a hK => ?_
      refine stepM hK 61 60 (by kernel_rfl) (.inl rfl) rfl fun a hK => ?_
      refine stepN hK 62 (by kernel_rfl) fun a hK => ?_
      refine stepN hK 63 (by kernel_rfl) fun a hK => ?_
      refine stepN hK 64 (by kernel_rfl) fun a hK => ?_
      refine stepN hK 65 (by kernel_rfl) fun a hK => ?_
      refine stepN hK 66 (by kernel_rfl) fun a hK => ?_
      refine stepN hK 67 (by kernel_rfl) fun a hK => ?_
      refine stepP hK 68 (.bool true) (by kernel_rfl) (by kernel_rfl) fun a hK => ?_
      refine stepM hK 69 68 (by kernel_rfl) (.inl rfl) rfl fun a hK => ?_
      refine stepN hK 70 (by kernel_rfl) fun a hK => ?_
      refine stepN hK 71 (by kernel_rfl) fun a hK => ?_
      refine stepN hK 72 (by kernel_rfl) fun a hK => ?_
      refine stepN hK 73 (by kernel_rfl) fun a hK => ?_
      refine stepN hK 74 (by kernel_rfl) fun a hK => ?_
      refine stepN hK 75 (by kernel_rfl) fun a hK => ?_
      refine stepP hK 76 (.bool true) (by kernel_rfl) (by kernel_rfl) fun a hK => ?_
      refine region_done hK [(76, .bool true), (7, pA b6 0), (6, pA b5 0), (16, .bool true), (12, .bool false), (4, .bool false), (0, .slice A l.length c), (1, .slice B m.length d), (5, vN i)] ⟨rfl, rfl, rfl, rfl, rfl, rfl, rfl, rfl, rfl, trivial⟩ fun a hK => ?_
      refine wp_cond_true (hK.get rfl) ?_
      refine wp_seq ?_
      refine region_go (lst := [0]) (by kernel_rfl) ?_
      refine stepP hK 4 (.bool false) (by kernel_rfl) (by kernel_rfl) fun a hK => ?_
      refine region_done hK [(4, .bool false), (76, .bool true), (7, pA b6 0), (6, pA b5 0), (16, .bool true), (12, .bool false), (0, .slice A l.length c), (1, .slice B m.length d), (5, vN i)] ⟨rfl, rfl, rfl, rfl, rfl, rfl, rfl, rfl, rfl, trivial⟩ fun a hK => ?_
      refine wp_ret ?_
      exact ret_t hK rfl (u := (.bool false)) rfl (⟨by have hs : t3.same t4 = false := (by rw [same_sm2, h8, h9, h10]; rfl); unfold smsEq; rw [hne, ← hR.2, smsSame_step ht3 ht4, hs]; rfl, hM.below⟩)
     ·refine stepP hK 44 (.bool false) (by kernel_rfl) (okBool (b := (!(decide (t3.loc = t4.loc)))) (run_neS rfl rfl rfl) h10) fun a hK => ?_
      refine stepP hK 45 (.bool false) (by kernel_rfl) (by kernel_rfl) fun a hK => ?_
      refine stepM hK 46 45 (by kernel_rfl) (.inl rfl) rfl fun a hK => ?_
      refine stepP hK 47 (pA b5 3) (by kernel_rfl) (by kernel_rfl) fun a hK => ?_
      refine stepLoad hK 48 (.int .i64 t3.ord) (by kernel_rfl) rfl rfl ((hM.row 0 rfl).cells 3 1) (by kernel_rfl) fun a hK => ?_
      refine stepP hK 49 (pA b6 3) (by kernel_rfl) (by kernel_rfl) fun a hK => ?_
      refine stepLoad hK 50 (.int .i64 t4.ord) (by kernel_rfl) rfl rfl ((hM.row 1 rfl).cells 3 1) (by kernel_rfl) fun a hK => ?_
      rcases Bool.eq_false_or_eq_true (!(decide ((t3.ord : Int) = t4.ord))) with h11 | h11
      ·refine stepP hK 51 (.bool true) (by kernel_rfl) (okBool (b := (!(decide ((t3.ord : Int) = t4.ord)))) (by kernel_rfl) h11) fun a hK => ?_
       refine stepP hK 52 (.bool true) (by kernel_rfl) (by kernel_rfl) fun a hK => ?_
       refine stepM hK 53 52 (by kernel_rfl) (.inl rfl) rfl fun a hK => ?_
       refine stepN hK 54 (by kernel_rfl) fun a hK => ?_
       refine stepN hK 55 (by kernel_rfl) fun a hK => ?_
       refine stepN hK 56 (by kernel_rfl) fun a hK => ?_
       refine stepN hK 57 (by kernel_rfl) fun a hK => ?_
       refine stepN hK 58 (by kernel_rfl) fun a hK => ?_
       refine stepN hK 59 (by kernel_rfl) fun a hK => ?_
       refine stepP hK 60 (.bool true) (by kernel_rfl) (by kernel_rfl) fun a hK => ?_
       refine stepM hK 61 60 (by kernel_rfl) (.inl rfl) rfl fun a hK => ?_
       refine stepN hK 62 (by kernel_rfl) fun a hK => ?_
       refine stepN hK 63 (by kernel_rfl) fun a hK => ?_
       refine stepN hK 64 (by kernel_rfl) fun a hK => ?_
       refine stepN hK 65 (by kernel_rfl) fun a hK => ?_
       refine stepN hK 66 (by kernel_rfl) fun a hK => ?_
       refine stepN hK 67 (by kernel_rfl) fun a hK => ?_
       refine stepP hK 68 (.bool true) (by kernel_rfl) (by kernel_rfl) fun a hK => ?_
       refine stepM hK 69 68 (by kernel_rfl) (.inl rfl) rfl fun a hK => ?_
       refine stepN hK 70 (by kernel_rfl) fun a hK => ?_
       refine stepN hK 71 (by kernel_rfl) fun a hK => ?_
       refine stepN hK 72 (by kernel_rfl) fun a hK => ?_
       refine stepN hK 73 (by kernel_rfl) fun a hK => ?_
       refine stepN hK 74 (by kernel_rfl) fun a hK => ?_
       refine stepN hK 75 (by kernel_rfl) fun a hK => ?_
       refine stepP hK 76 (.bool true) (by kernel_rfl) (by kernel_rfl) fun a hK => ?_
       refine region_done hK [(76, .bool true), (7, pA b6 0), (6, pA b5 0), (16, .bool true), (12, .bool false), (4, .bool false), (0, .slice A l.length c), (1, .slice B m.length d), (5, vN i)] ⟨rfl, rfl, rfl, rfl, rfl, rfl, rfl, rfl, rfl, trivial⟩ fun a hK => ?_
       refine wp_cond_true (hK.get rfl) ?_
       refine wp_seq ?_
       refine region_go (lst := [0]) (by kernel_rfl) ?_
       refine stepP hK 4 (.bool false) (by kernel_rfl) (by kernel_rfl) fun a hK => ?_
       refine region_done hK [(4, .bool false), (76, .bool true), (7, pA b6 0), (6, pA b5 0), (16, .bool true), (12, .bool false), (0, .slice A l.length c), (1, .slice B m.length d), (5, vN i)] ⟨rfl, rfl, rfl, rfl, rfl, rfl, rfl, rfl, rfl, trivial⟩ fun a hK => ?_
       refine wp_ret ?_
       exact ret_t hK rfl (u := (.bool false)) rfl (⟨by have hs : t3.same t4 = false := (by rw [same_sm2, h8, h9, h10, h11]; rfl); unfold smsEq; rw [hne, ← hR.2, smsSame_step ht3 ht4, hs]; rfl, hM.below⟩)
      ·refine stepP hK 51 (.bool false) (by kernel_rfl) (okBool (b := (!(decide ((t3.ord : Int) = t4.ord)))) (by kernel_rfl) h11) fun a hK => ?_
       refine stepP hK 52 (.bool false) (by kernel_rfl) (by kernel_rfl) fun a hK => ?_
       refine stepM hK 53 52 (by kernel_rfl) (.inl rfl) rfl fun a hK => ?_
       refine stepP hK 54 (pA b5 4) (by kernel_rfl) (by kernel_rfl) fun a hK => ?_
       refine stepLoad hK 55 (.slice t3.A1 t3.es.length t3.c1) (by kernel_rfl) rfl rfl ((hM.row 0 rfl).cells 4 1) (by kernel_rfl) fun a hK => ?_
       refine stepP hK 56 (pA b6 4) (by kernel_rfl) (by kernel_rfl) fun a hK => ?_
       refine stepLoad hK 57 (.slice t4.A1 t4.es.length t4.c1) (by kernel_rfl) rfl rfl ((hM.row 1 rfl).cells 4 1) (by kernel_rfl) fun a hK => ?_
       rcases Bool.eq_false_or_eq_true (exsEq t3.es t4.es) with h12 | h12
       ·refine stepRet hK hM 58 #[.slice t3.A1 t3.es.length t3.c1, .slice t4.A1 t4.es.length t4.c1] (.bool true) (by kernel_rfl) (run_callE en_cantileverkit_Exprs rfl rfl (by kernel_rfl)) (ret_eq (kit_Exprs0 t3.es (fun x _ => kit_Expr x) t4.es _ _ _ _ _ (et3.exprs.on hM.below) (et4.exprs.on hM.below) (by omega) (by omega)) (congrArg Value.bool h12)) fun a w hK hM => ?_
        refine stepP hK 59 (.bool false) (by kernel_rfl) (by kernel_rfl) fun a hK => ?_
        refine stepP hK 60 (.bool false) (by kernel_rfl) (by kernel_rfl) fun a hK => ?_
        refine stepM hK 61 60 (by kernel_rfl) (.inl rfl) rfl fun a hK => ?_
        refine stepP hK 62 (pA b5 5) (by kernel_rfl) (by kernel_rfl) fun a hK => ?_
        refine stepLoad hK 63 (.slice t3.A2 t3.th.length t3.c2) (by kernel_rfl) rfl rfl ((hM.row 0 rfl).cells 5 1) (by kernel_rfl) fun a hK => ?_
        refine stepP hK 64 (pA b6 5) (by kernel_rfl) (by kernel_rfl) fun a hK => ?_
        refine stepLoad hK 65 (.slice t4.A2 t4.th.length t4.c2) (by kernel_rfl) rfl rfl ((hM.row 1 rfl).cells 5 1) (by kernel_rfl) fun a hK => ?_
        rcases Bool.eq_false_or_eq_true (smsEq t3.th t4.th) with h13 | h13
        ·refine stepRet hK hM 66 #[.slice t3.A2 t3.th.length t3.c2, .slice t4.A2 t4.th.length t4.c2] (.bool true) (by kernel_rfl) (run_callE en_cantileverkit_Stmts rfl rfl (by kernel_rfl)) (ret_eq ((ih t3 (List.mem_of_getElem? ht3)).1 t4.th _ _ _ _ _ (et3.thn.on hM.below) (et4.thn.on hM.below) (by omega) (by omega)) (congrArg Value.bool h13)) fun a w hK hM => ?_
         refine stepP hK 67 (.bool false) (by kernel_rfl) (by kernel_rfl) fun a hK => ?_
         refine stepP hK 68 (.bool false) (by kernel_rfl) (by kernel_rfl) fun a hK => ?_
         refine stepM hK 69 68 (by kernel_rfl) (.inl rfl) rfl fun a hK => ?_
         refine stepP hK 70 (pA b5 6) (by kernel_rfl) (by kernel_rfl) fun a hK => ?_
         refine stepLoad hK 71 (.slice t3.A3 t3.el.length t3.c3) (by kernel_rfl) rfl rfl ((hM.row 0 rfl).cells 6 1) (by kernel_rfl) fun a hK => ?_
         refine stepP hK 72 (pA b6 6) (by kernel_rfl) (by kernel_rfl) fun a hK => ?_
         refine stepLoad hK 73 (.slice t4.A3 t4.el.length t4.c3) (by kernel_rfl) rfl rfl ((hM.row 1 rfl).cells 6 1) (by kernel_rfl) fun a hK => ?_
         rcases Bool.eq_false_or_eq_true (smsEq t3.el t4.el) with h14 | h14
         ·refine stepRet hK hM 74 #[.slice t3.A3 t3.el.length t3.c3, .slice t4.A3 t4.el.length t4.c3] (.bool true) (by kernel_rfl) (run_callE en_cantileverkit_Stmts rfl rfl (by kernel_rfl)) (ret_eq ((ih t3 (List.mem_of_getElem? ht3)).2 t4.el _ _ _ _ _ (et3.els.on hM.below) (et4.els.on hM.below) (by omega) (by omega)) (congrArg Value.bool h14)) fun a w hK hM => ?_
          refine stepP hK 75 (.bool false) (by kernel_rfl) (by kernel_rfl) fun a hK => ?_
          refine stepP hK 76 (.bool false) (by kernel_rfl) (by kernel_rfl) fun a hK => ?_
          refine region_done hK [(76, .bool false), (7, pA b6 0), (6, pA b5 0), (16, .bool true), (12, .bool false), (4, .bool false), (0, .slice A l.length c), (1, .slice B m.length d), (5, vN i)] ⟨rfl, rfl, rfl, rfl, rfl, rfl, rfl, rfl, rfl, trivial⟩ fun a hK => ?_
          refine wp_cond_false (hK.get rfl) ?_
          refine wp_skip ?_
          refine region_go (lst := [0, 1, 2]) (by kernel_rfl) ?_
          refine stepM hK 17 5 (by kernel_rfl) (.inl rfl) rfl fun a hK => ?_
          refine stepP hK 18 (.int .i64 (((i + 1) : Nat) : Int)) (by kernel_rfl) (run_addN (i := i) (j := 1) rfl rfl rfl (by omega)) fun a hK => ?_
          refine stepM hK 5 18 (by kernel_rfl) (.inr rfl) rfl fun a hK => ?_
          refine region_done hK [(5, .int .i64 (((i + 1) : Nat) : Int)), (76, .bool false), (7, pA b6 0), (6, pA b5 0), (16, .bool true), (12, .bool false), (4, .bool false), (0, .slice A l.length c), (1, .slice B m.length d)] ⟨rfl, rfl, rfl, rfl, rfl, rfl, rfl, rfl, rfl, trivial⟩ fun a hK => ?_
          have hRn : (i + 1) ≤ l.length ∧ smsSame (l.drop (i + 1)) (m.drop (i + 1)) = smsSame l m := ⟨by omega, by have hs : t3.same t4 = true := (by rw [same_sm2, h8, h9, h10, h11, h12, h13, h14]; rfl); rw [← hR.2, smsSame_step ht3 ht4, hs, Bool.true_and]⟩
          have hmn : l.length - (i + 1) < l.length - i := by omega
          exact ⟨i + 1, hK.sub ⟨rfl, rfl, rfl, rfl, rfl, trivial⟩, (hM.drop 2), hRn, hmn⟩
         ·refine stepRet hK hM 74 #[.slice t3.A3 t3.el.length t3.c3, .slice t4.A3 t4.el.length t4.c3] (.bool false) (by kernel_rfl) (run_callE en_cantileverkit_Stmts rfl rfl (by kernel_rfl)) (ret_eq ((ih t3 (List.mem_of_getElem? ht3)).2 t4.el _ _ _ _ _ (et3.els.on hM.below) (et4.els.on hM.below) (by omega) (by omega)) (congrArg Value.bool h14)) fun a w hK hM => ?_
          refine stepP hK 75 (.bool true) (by kernel_rfl) (by kernel_rfl) fun a hK => ?_
          refine stepP hK 76 (.bool true) (by kernel_rfl) (by kernel_rfl) fun a hK => ?_
          refine region_done hK [(76, .bool true), (7, pA b6 0), (6, pA b5 0), (16, .bool true), (12, .bool false), (4, .bool false), (0, .slice A l.length c), (1, .slice B m.length d), (5, vN i)] ⟨rfl, rfl, rfl, rfl, rfl, rfl, rfl, rfl, rfl, trivial⟩ fun a hK => ?_
          refine wp_cond_true (hK.get rfl) ?_
          refine wp_seq ?_
          refine region_go (lst := [0]) (by kernel_rfl) ?_
          refine stepP hK 4 (.bool false) (by kernel_rfl) (by kernel_rfl) fun a hK => ?_
          refine region_done hK [(4, .bool false), (76, .bool true), (7, pA b6 0), (6, pA b5 0), (16, .bool true), (12, .bool false), (0, .slice A l.length c), (1, .slice B m.length d), (5, vN i)] ⟨rfl, rfl, rfl, rfl, rfl, rfl, rfl, rfl, rfl, trivial⟩ fun a hK => ?_
          refine wp_ret ?_
          exact ret_t hK rfl (u := (.bool false)) rfl (⟨by have hs : t3.same t4 = false := (by rw [same_sm2, h8, h9, h10, h11, h12, h13, h14]; rfl); unfold smsEq; rw [hne, ← hR.2, smsSame_step ht3 ht4, hs]; rfl, hM.below⟩)
        ·refine stepRet hK hM 66 #[.slice t3.A2 t3.th.length t3.c2, .slice t4.A2 t4.th.length t4.c2] (.bool false) (by kernel_rfl) (run_callE en_cantileverkit_Stmts rfl rfl (by kernel_rfl)) (ret_eq ((ih t3 (List.mem_of_getElem? ht3)).1 t4.th _ _ _ _ _ (et3.thn.on hM.below) (et4.thn.on hM.below) (by omega) (by omega)) (congrArg Value.bool h13)) fun a w hK hM => ?_
         refine stepP hK 67 (.bool true) (by kernel_rfl) (by kernel_rfl) fun a hK => ?_
         refine stepP hK 68 (.bool true) (by kernel_rfl) (by kernel_rfl) fun a hK => ?_
         refine stepM hK 69 68 (by kernel_rfl) (.inl rfl) rfl fun a hK => ?_
         refine stepN hK 70 (by kernel_rfl) fun a hK => ?_
         refine stepN hK 71 (by kernel_rfl) fun a hK => ?_
         refine stepN hK 72 (by kernel_rfl) fun a hK => ?_
         refine stepN hK 73 (by kernel_rfl) fun a hK => ?_
         refine stepN hK 74 (by kernel_rfl) fun a hK => ?_
         refine stepN hK 75 (by kernel_rfl) fun a hK => ?_
         refine stepP hK 76 (.bool true) (by kernel_rfl) (by kernel_rfl) fun a hK => ?_
         refine region_done hK [(76, .bool true), (7, pA b6 0), (6, pA b5 0), (16, .bool true), (12, .bool false), (4, .bool false), (0, .slice A l.length c), (1, .slice B m.length d), (5, vN i)] ⟨rfl, rfl, rfl, rfl, rfl, rfl, rfl, rfl, rfl, trivial⟩ fun a hK => ?_
         refine wp_cond_true (hK.get rfl) ?_
         refine wp_seq ?_
         refine region_go (lst := [0]) (by kernel_rfl) ?_
         refine stepP hK 4 (.bool false) (by kernel_rfl) (by kernel_rfl) fun a hK => ?_
         refine region_done hK [(4, .bool false), (76, .bool true), (7, pA b6 0), (6, pA b5 0), (16, .bool true), (12, .bool false), (0, .slice A l.length c), (1, .slice B m.length d), (5, vN i)] ⟨rfl, rfl, rfl, rfl, rfl, rfl, rfl, rfl, rfl, trivial⟩ fun a hK => ?_
         refine wp_ret ?_
         exact ret_t hK rfl (u := (.bool false)) rfl (⟨by have hs : t3.same t4 = false := (by rw [same_sm2, h8, h9, h10, h11, h12, h13]; rfl); unfold smsEq; rw [hne, ← hR.2, smsSame_step ht3 ht4, hs]; rfl, hM.below⟩)
       ·refine stepRet hK hM 58 #[.slice t3.A1 t3.es.length t3.c1, .slice t4.A1 t4.es.length t4.c1] (.bool false) (by kernel_rfl) (run_callE en_cantileverkit_Exprs rfl rfl (by kernel_rfl)) (ret_eq (kit_Exprs0 t3.es (fun x _ => kit_Expr x) t4.es _ _ _ _ _ (et3.exprs.on hM.below) (et4.exprs.on hM.below) (by omega) (by omega)) (congrArg Value.bool h12)) fun a w hK hM => ?_
        refine stepP hK 59 (.bool true) (by kernel_rfl) (by kernel_rfl) fun a hK => ?_
        refine stepP hK 60 (.bool true) (by kernel_rfl) (by kernel_rfl) fun a hK => ?_
        refine stepM hK 61 60 (by kernel_rfl) (.inl rfl) rfl fun a hK => ?_
        refine stepN hK 62 (by kernel_rfl) fun a hK => ?_
        refine stepN hK 63 (by kernel_rfl) fun a hK => ?_
        refine stepN hK 64 (by kernel_rfl) fun a hK => ?_
        refine stepN hK 65 (by kernel_rfl) fun a hK => ?_
        refine stepN hK 66 (by kernel_rfl) fun a hK => ?_
        refine stepN hK 67 (by kernel_rfl) fun a hK => ?_
        refine stepP hK 68 (.bool true) (by kernel_rfl) (by kernel_rfl) fun a hK => ?_
        refine stepM hK 69 68 (by kernel_rfl) (.inl rfl) rfl fun a hK => ?_
        refine stepN hK 70 (by kernel_rfl) fun a hK => ?_
        refine stepN hK 71 (by kernel_rfl) fun a hK => ?_
        refine stepN hK 72 (by kernel_rfl) fun a hK => ?_
        refine stepN hK 73 (by kernel_rfl) fun a hK => ?_
        refine stepN hK 74 (by kernel_rfl) fun a hK => ?_
        refine stepN hK 75 (by kernel_rfl) fun a hK => ?_
        refine stepP hK 76 (.bool true) (by kernel_rfl) (by kernel_rfl) fun a hK => ?_
        refine region_done hK [(76, .bool true), (7, pA b6 0), (6, pA b5 0), (16, .bool true), (12, .bool false), (4, .bool false), (0, .slice A l.length c), (1, .slice B m.length d), (5, vN i)] ⟨rfl, rfl, rfl, rfl, rfl, rfl, rfl, rfl, rfl, trivial⟩ fun a hK => ?_
        refine wp_cond_true (hK.get rfl) ?_
        refine wp_seq ?_
        refine region_go (lst := [0]) (by kernel_rfl) ?_
        refine stepP hK 4 (.bool false) (by kernel_rfl) (by kernel_rfl) fun a hK => ?_
        refine region_done hK [(4, .bool false), (76, .bool true), (7, pA b6 0), (6, pA b5 0), (16, .bool true), (12, .bool false), (0, .slice A l.length c), (1, .slice B m.length d), (5, vN i)] ⟨rfl, rfl, rfl, rfl, rfl, rfl, rfl, rfl, rfl, trivial⟩ fun a hK => ?_
        refine wp_ret ?_
        exact ret_t hK rfl (u := (.bool false)) rfl (⟨by have hs : t3.same t4 = false := (by rw [same_sm2, h8, h9, h10, h11, h12]; rfl); unfold smsEq; rw [hne, ← hR.2, smsSame_step ht3 ht4, hs]; rfl, hM.below⟩)
  ·refine stepP hK 16 (.bool false) (by kernel_rfl) (okBool (b := (decide ((((i : Nat) : Int) : Int) < ((l.length : Nat) : Int)))) (by kernel_rfl) (decide_eq_false h2)) fun a hK => ?_
   refine region_done hK [(16, .bool false), (12, .bool false), (4, .bool false), (0, .slice A l.length c), (1, .slice B m.length d), (5, vN i)] ⟨rfl, rfl, rfl, rfl, rfl, rfl, trivial⟩ fun a hK => ?_
   refine wp_cond_false (hK.get rfl) ?_
   refine wp_exit (exit_then (exit_then (exit_here 0 ?_)))
   refine wp_seq ?_
   refine region_go (lst := [0]) (by kernel_rfl) ?_
   refine stepP hK 4 (.bool true) (by kernel_rfl) (by kernel_rfl) fun a hK => ?_
   refine region_done hK [(4, .bool true), (16, .bool false), (12, .bool false), (0, .slice A l.length c), (1, .slice B m.length d), (5, vN i)] ⟨rfl, rfl, rfl, rfl, rfl, rfl, trivial⟩ fun a hK => ?_
   refine wp_ret ?_
   exact ret_t hK rfl (u := (.bool true)) rfl (⟨by unfold smsEq; rw [hne, ← hR.2, smsSame_end (by omega)]; rfl, hM.below⟩)
set_option maxRecDepth 100000 in
set_option maxHeartbeats 4000000 in
theorem ast_sameStmt0 (s : Sm) (h1 : ∀ (m : List Sm) (A : Option Addr) (c : Nat) (B : Option Addr) (d : Nat) (w0 : World), SmsAt w0 A (s.th) → SmsAt w0 B m → (s.th).length ≤ 9223372036854775807 → m.length ≤ 9223372036854775807 → Calls Tryd.prog 53 #[.slice A (s.th).length c, .slice B m.length d] w0 (Ret w0 (.bool (smsEq (s.th) m)))) (h2 : ∀ (m : List Sm) (A : Option Addr) (c : Nat) (B : Option Addr) (d : Nat) (w0 : World), SmsAt w0 A (s.el) → SmsAt w0 B m → (s.el).length ≤ 9223372036854775807 → m.length ≤ 9223372036854775807 → Calls Tryd.prog 53 #[.slice A (s.el).length c, .slice B m.length d] w0 (Ret w0 (.bool (smsEq (s.el) m)))) : ∀ (t : Sm) (w0 : World), SmAt w0 s → SmAt w0 t → Calls Tryd.prog 78 #[vS s, vS t] w0 (Ret w0 (.bool (s.same t))) := by
 intro t w0 hs ht
 have hsl := hs.len; have htl := ht.len
 refine calls_K (args := [vS s, vS t]) (n := 52) (env := [(0, vS s), (1, vS t)]) Tryd.func78 rfl rfl rfl ⟨rfl, rfl, trivial⟩ fun a w hK hM => ?_
 refine wp_seq ?_
 refine region_go (lst := [0, 1, 2]) (by kernel_rfl) ?_
 refine stepAlloc hK hM 2 30 (cS s) (fun b => pA b 0) (by kernel_rfl) (by kernel_rfl) fun b1 a w hK hM => ?_
 refine stepAlloc hK hM 3 30 (cS t) (fun b => pA b 0) (by kernel_rfl) (by kernel_rfl) fun b2 a w hK hM => ?_
 refine stepP hK 4 (.bool false) (by kernel_rfl) (by kernel_rfl) fun a hK => ?_
 refine region_done hK [(4, .bool false), (3, pA b2 0), (2, pA b1 0), (0, vS s), (1, vS t)] ⟨rfl, rfl, rfl, rfl, rfl, trivial⟩ fun a hK => ?_
 refine wp_seq ?_
 refine region_go (lst := [0, 1, 2, 3, 4, 5, 6, 7, 8, 9, 10, 11, 12, 13, 14, 15, 16, 17, 18, 19, 20, 21, 22, 23, 24, 25, 26, 27, 28, 29, 30, 31, 32, 33, 34, 35, 36, 37, 38, 39, 40, 41, 42, 43, 44, 45, 46, 47]) (by kernel_rfl) ?_
 refine stepP hK 5 (pA b1 0) (by kernel_rfl) (by kernel_rfl) fun a hK => ?_
 refine stepLoad hK 6 (.int .i64 s.kind) (by kernel_rfl) rfl rfl ((hM.row 1 rfl).cells 0 1) (by kernel_rfl) fun a hK => ?_
 refine stepP hK 7 (pA b2 0) (by kernel_rfl) (by kernel_rfl) fun a hK => ?_
 refine stepLoad hK 8 (.int .i64 t.kind) (by kernel_rfl) rfl rfl ((hM.row 0 rfl).cells 0 1) (by kernel_rfl) fun a hK => ?_
 by_cases h3 : (s.kind : Int) = t.kind
 ·refine stepP hK 9 (.bool true) (by kernel_rfl) (okBool (b := (decide ((s.kind : Int) = t.kind))) (by kernel_rfl) (decide_eq_true h3)) fun a hK => ?_
  refine stepM hK 10 9 (by kernel_rfl) (.inl rfl) rfl fun a hK => ?_
  refine stepP hK 11 (pA b1 1) (by kernel_rfl) (by kernel_rfl) fun a hK => ?_
  refine stepLoad hK 12 (Str s.nm) (by kernel_rfl) rfl rfl ((hM.row 1 rfl).cells 1 1) (by kernel_rfl) fun a hK => ?_
  refine stepP hK 13 (pA b2 1) (by kernel_rfl) (by kernel_rfl) fun a hK => ?_
  refine stepLoad hK 14 (Str t.nm) (by kernel_rfl) rfl rfl ((hM.row 0 rfl).cells 1 1) (by kernel_rfl) fun a hK => ?_
  by_cases h4 : s.nm = t.nm
  ·refine stepP hK 15 (.bool true) (by kernel_rfl) (okBool (b := (decide (s.nm = t.nm))) (run_eqS rfl rfl rfl) (decide_eq_true h4)) fun a hK => ?_
   refine stepP hK 16 (.bool true) (by kernel_rfl) (by kernel_rfl) fun a hK => ?_
   refine stepM hK 17 16 (by kernel_rfl) (.inl rfl) rfl fun a hK => ?_
   refine stepP hK 18 (pA b1 2) (by kernel_rfl) (by kernel_rfl) fun a hK => ?_
   refine stepLoad hK 19 (Str s.loc) (by kernel_rfl) rfl rfl ((hM.row 1 rfl).cells 2 1) (by kernel_rfl) fun a hK => ?_
   refine stepP hK 20 (pA b2 2) (by kernel_rfl) (by kernel_rfl) fun a hK => ?_
   refine stepLoad hK 21 (Str t.loc) (by kernel_rfl) rfl rfl ((hM.row 0 rfl).cells 2 1) (by kernel_rfl) fun a hK => ?_
   by_cases h5 : s.loc = t.loc
   ·refine stepP hK 22 (.bool true) (by kernel_rfl) (okBool (b := (decide (s.loc = t.loc))) (run_eqS rfl rfl rfl) (decide_eq_true h5)) fun a hK => ?_
    refine stepP hK 23 (.bool true) (by kernel_rfl) (by kernel_rfl) fun a hK => ?_
    refine stepM hK 24 23 (by kernel_rfl) (.inl rfl) rfl fun a hK => ?_
    refine stepP hK 25 (pA b1 3) (by kernel_rfl) (by kernel_rfl) fun a hK => ?_
    refine stepLoad hK 26 (.int .i64 s.ord) (by kernel_rfl) rfl rfl ((hM.row 1 rfl).cells 3 1) (by kernel_rfl) fun a hK => ?_
    refine stepP hK 27 (pA b2 3) (by kernel_rfl) (by kernel_rfl) fun a hK => ?_
    refine stepLoad hK 28 (.int .i64 t.ord) (by kernel_rfl) rfl rfl ((hM.row 0 rfl).cells 3 1) (by kernel_rfl) fun a hK => ?_
    by_cases h6 : (s.ord : Int) = t.ord
    ·refine stepP hK 29 (.bool true) (by kernel_rfl) (okBool (b := (decide ((s.ord : Int) = t.ord))) (by kernel_rfl) (decide_eq_true h6)) fun a hK => ?_
     refine stepP hK 30 (.bool true) (by kernel_rfl) (by kernel_rfl) fun a hK => ?_
     refine stepM hK 31 30 (by kernel_rfl) (.inl rfl) rfl fun a hK => ?_
     refine stepP hK 32 (pA b1 4) (by kernel_rfl) (by kernel_rfl) fun a hK => ?_
     refine stepLoad hK 33 (.slice s.A1 s.es.length s.c1) (by kernel_rfl) rfl rfl ((hM.row 1 rfl).cells 4 1) (by kernel_rfl) fun a hK => ?_
     refine stepP hK 34 (pA b2 4) (by kernel_rfl) (by kernel_rfl) fun a hK => ?_
     refine stepLoad hK 35 (.slice t.A1 t.es.length t.c1) (by kernel_rfl) rfl rfl ((hM.row 0 rfl).cells 4 1) (by kernel_rfl) fun a hK => ?_
     rcases Bool.eq_false_or_eq_true (exsEq s.es t.es) with h7 | h7
     ·refine stepRet hK hM 36 #[.slice s.A1 s.es.length s.c1, .slice t.A1 t.es.length t.c1, .func (.func 91) #[] #[]] (.bool true) (by kernel_rfl) (run_callE en_api_Expr_ rfl rfl (by kernel_rfl)) (ret_eq (ast_eqEx s.es (fun x _ => ast_SameExpr x) t.es _ _ _ _ _ (hs.exprs.on hM.below) (ht.exprs.on hM.below) (by omega) (by omega)) (congrArg Value.bool h7)) fun a w hK hM => ?_
      refine stepP hK 37 (.bool true) (by kernel_rfl) (by kernel_rfl) fun a hK => ?_
      refine stepM hK 38 37 (by kernel_rfl) (.inl rfl) rfl fun a hK => ?_
      refine stepP hK 39 (pA b1 5) (by kernel_rfl) (by kernel_rfl) fun a hK => ?_
      refine stepLoad hK 40 (.slice s.A2 s.th.length s.c2) (by kernel_rfl) rfl rfl ((hM.row 1 rfl).cells 5 1) (by kernel_rfl) fun a hK => ?_
      refine stepP hK 41 (pA b2 5) (by kernel_rfl) (by kernel_rfl) fun a hK => ?_
      refine stepLoad hK 42 (.slice t.A2 t.th.length t.c2) (by kernel_rfl) rfl rfl ((hM.row 0 rfl).cells 5 1) (by kernel_rfl) fun a hK => ?_
      rcases Bool.eq_false_or_eq_true (smsEq s.th t.th) with h8 | h8
      ·refine stepRet hK hM 43 #[.slice s.A2 s.th.length s.c2, .slice t.A2 t.th.length t.c2] (.bool true) (by kernel_rfl) (run_callE en_ast_sameStmts rfl rfl (by kernel_rfl)) (ret_eq (h1 t.th _ _ _ _ _ (hs.thn.on hM.below) (ht.thn.on hM.below) (by omega) (by omega)) (congrArg Value.bool h8)) fun a w hK hM => ?_
       refine stepP hK 44 (.bool true) (by kernel_rfl) (by kernel_rfl) fun a hK => ?_
       refine stepM hK 45 44 (by kernel_rfl) (.inl rfl) rfl fun a hK => ?_
       refine stepP hK 46 (pA b1 6) (by kernel_rfl) (by kernel_rfl) fun a hK => ?_
       refine stepLoad hK 47 (.slice s.A3 s.el.length s.c3) (by kernel_rfl) rfl rfl ((hM.row 1 rfl).cells 6 1) (by kernel_rfl) fun a hK => ?_
       refine stepP hK 48 (pA b2 6) (by kernel_rfl) (by kernel_rfl) fun a hK => ?_
       refine stepLoad hK 49 (.slice t.A3 t.el.length t.c3) (by kernel_rfl) rfl rfl ((hM.row 0 rfl).cells 6 1) (by kernel_rfl) fun a hK => ?_
       rcases Bool.eq_false_or_eq_true (smsEq s.el t.el) with h9 | h9
       ·refine stepRet hK hM 50 #[.slice s.A3 s.el.length s.c3, .slice t.A3 t.el.length t.c3] (.bool true) (by kernel_rfl) (run_callE en_ast_sameStmts rfl rfl (by kernel_rfl)) (ret_eq (h2 t.el _ _ _ _ _ (hs.els.on hM.below) (ht.els.on hM.below) (by omega) (by omega)) (congrArg Value.bool h9)) fun a w hK hM => ?_
        refine stepP hK 51 (.bool true) (by kernel_rfl) (by kernel_rfl) fun a hK => ?_
        refine stepM hK 4 51 (by kernel_rfl) (.inr rfl) rfl fun a hK => ?_
        refine region_done hK [(4, .bool true), (3, pA b2 0), (2, pA b1 0), (0, vS s), (1, vS t)] ⟨rfl, rfl, rfl, rfl, rfl, trivial⟩ fun a hK => ?_
        refine wp_ret ?_
        exact ret_t hK rfl (u := (.bool true)) rfl (⟨by rw [same_sm, (decide_eq_true h3), (decide_eq_true h4), (decide_eq_true h5), (decide_eq_true h6), h7, h8, h9]; rfl, hM.below⟩)
       ·refine stepRet hK hM 50 #[.slice s.A3 s.el.length s.c3, .slice t.A3 t.el.length t.c3] (.bool false) (by kernel_rfl) (run_callE en_ast_sameStmts rfl rfl (by kernel_rfl)) (ret_eq (h2 t.el _ _ _ _ _ (hs.els.on hM.below) (ht.els.on hM.below) (by omega) (by omega)) (congrArg Value.bool h9)) fun a w hK hM => ?_
        refine stepP hK 51 (.bool false) (by kernel_rfl) (by kernel_rfl) fun a hK => ?_
        refine stepM hK 4 51 (by kernel_rfl) (.inr rfl) rfl fun a hK => ?_
        refine region_done hK [(4, .bool false), (3, pA b2 0), (2, pA b1 0), (0, vS s), (1, vS t)] ⟨rfl, rfl, rfl, rfl, rfl, trivial⟩ fun a hK => ?_
        refine wp_ret ?_
        exact ret_t hK rfl (u := (.bool false)) rfl (⟨by rw [same_sm, (decide_eq_true h3), (decide_eq_true h4), (decide_eq_true h5), (decide_eq_true h6), h7, h8, h9]; rfl, hM.below⟩)
      ·refine stepRet hK hM 43 #[.slice s.A2 s.th.length s.c2, .slice t.A2 t.th.length t.c2] (.bool false) (by kernel_rfl) (run_callE en_ast_sameStmts rfl rfl (by kernel_rfl)) (ret_eq (h1 t.th _ _ _ _ _ (hs.thn.on hM.below) (ht.thn.on hM.below) (by omega) (by omega)) (congrArg Value.bool h8)) fun a w hK hM => ?_
       refine stepP hK 44 (.bool false) (by kernel_rfl) (by kernel_rfl) fun a hK => ?_
       refine stepM hK 45 44 (by kernel_rfl) (.inl rfl) rfl fun a hK => ?_
       refine stepN hK 46 (by kernel_rfl) fun a hK => ?_
       refine stepN hK 47 (by kernel_rfl) fun a hK => ?_
       refine stepN hK 48 (by kernel_rfl) fun a hK => ?_
       refine stepN hK 49 (by kernel_rfl) fun a hK => ?_
       refine stepN hK 50 (by kernel_rfl) fun a hK => ?_
       refine stepP hK 51 (.bool false) (by kernel_rfl) (by kernel_rfl) fun a hK => ?_
       refine stepM hK 4 51 (by kernel_rfl) (.inr rfl) rfl fun a hK => ?_
       refine region_done hK [(4, .bool false), (3, pA b2 0), (2, pA b1 0), (0, vS s), (1, vS t)] ⟨rfl, rfl, rfl, rfl, rfl, trivial⟩ fun a hK => ?_
       refine wp_ret ?_
       exact ret_t hK rfl (u := (.bool false)) rfl (⟨by rw [same_sm, (decide_eq_true h3), (decide_eq_true h4), (decide_eq_true h5), (decide_eq_true h6), h7, h8]; rfl, hM.below⟩)
     ·refine stepRet hK hM 36 #[.slice s.A1 s.es.length s.c1, .slice t.A1 t.es.length t.c1, .func (.func 91) #[] #[]] (.bool false) (by kernel_rfl) (run_callE en_api_Expr_ rfl rfl (by kernel_rfl)) (ret_eq (ast_eqEx s.es (fun x _ => ast_SameExpr x) t.es _ _ _ _ _ (hs.exprs.on hM.below) (ht.exprs.on hM.below) (by omega) (by omega)) (congrArg Value.bool h7)) fun a w hK hM => ?_
      refine stepP hK 37 (.bool false) (by kernel_rfl) (by kernel_rfl) fun a hK => ?_
      refine stepM hK 38 37 (by kernel_rfl) (.inl rfl) rfl fun a hK => ?_
      refine stepN hK 39 (by kernel_rfl) fun a hK => ?_
      refine stepN hK 40 (by kernel_rfl) fun a hK => ?_
      refine stepN hK 41 (by kernel_rfl) fun a hK => ?_
      refine stepN hK 42 (by kernel_rfl) fun a hK => ?_
      refine stepN hK 43 (by kernel_rfl) fun a hK => ?_
      refine stepP hK 44 (.bool false) (by kernel_rfl) (by kernel_rfl) fun a hK => ?_
      refine stepM hK 45 44 (by kernel_rfl) (.inl rfl) rfl fun a hK => ?_
      refine stepN hK 46 (by kernel_rfl) fun a hK => ?_
      refine stepN hK 47 (by kernel_rfl) fun a hK => ?_
      refine stepN hK 48 (by kernel_rfl) fun a hK => ?_
      refine stepN hK 49 (by kernel_rfl) fun a hK => ?_
      refine stepN hK 50 (by kernel_rfl) fun a hK => ?_
      refine stepP hK 51 (.bool false) (by kernel_rfl) (by kernel_rfl) fun a hK => ?_
      refine stepM hK 4 51 (by kernel_rfl) (.inr rfl) rfl fun a hK => ?_
      refine region_done hK [(4, .bool false), (3, pA b2 0), (2, pA b1 0), (0, vS s), (1, vS t)] ⟨rfl, rfl, rfl, rfl, rfl, trivial⟩ fun a hK => ?_
      refine wp_ret ?_
      exact ret_t hK rfl (u := (.bool false)) rfl (⟨by rw [same_sm, (decide_eq_true h3), (decide_eq_true h4), (decide_eq_true h5), (decide_eq_true h6), h7]; rfl, hM.below⟩)
    ·refine stepP hK 29 (.bool false) (by kernel_rfl) (okBool (b := (decide ((s.ord : Int) = t.ord))) (by kernel_rfl) (decide_eq_false h6)) fun a hK => ?_
     refine stepP hK 30 (.bool false) (by kernel_rfl) (by kernel_rfl) fun a hK => ?_
     refine stepM hK 31 30 (by kernel_rfl) (.inl rfl) rfl fun a hK => ?_
     refine stepN hK 32 (by kernel_rfl) fun a hK => ?_
     refine stepN hK 33 (by kernel_rfl) fun a hK => ?_
     refine stepN hK 34 (by kernel_rfl) fun a hK => ?_
     refine stepN hK 35 (by kernel_rfl) fun a hK => ?_
     refine stepN hK 36 (by kernel_rfl) fun a hK => ?_
     refine stepP hK 37 (.bool false) (by kernel_rfl) (by kernel_rfl) fun a hK => ?_
     refine stepM hK 38 37 (by kernel_rfl) (.inl rfl) rfl fun a hK => ?_
     refine stepN hK 39 (by kernel_rfl) fun a hK => ?_
     refine stepN hK 40 (by kernel_rfl) fun a hK => ?_
     refine stepN hK 41 (by kernel_rfl) fun a hK => ?_
     refine stepN hK 42 (by kernel_rfl) fun a hK => ?_
     refine stepN hK 43 (by kernel_rfl) fun a hK => ?_
     refine stepP hK 44 (.bool false) (by kernel_rfl) (by kernel_rfl) fun a hK => ?_
     refine stepM hK 45 44 (by kernel_rfl) (.inl rfl) rfl fun a hK => ?_
     refine stepN hK 46 (by kernel_rfl) fun a hK => ?_
     refine stepN hK 47 (by kernel_rfl) fun a hK => ?_
     refine stepN hK 48 (by kernel_rfl) fun a hK => ?_
     refine stepN hK 49 (by kernel_rfl) fun a hK => ?_
     refine stepN hK 50 (by kernel_rfl) fun a hK => ?_
     refine stepP hK 51 (.bool false) (by kernel_rfl) (by kernel_rfl) fun a hK => ?_
     refine stepM hK 4 51 (by kernel_rfl) (.inr rfl) rfl fun a hK => ?_
     refine region_done hK [(4, .bool false), (3, pA b2 0), (2, pA b1 0), (0, vS s), (1, vS t)] ⟨rfl, rfl, rfl, rfl, rfl, trivial⟩ fun a hK => ?_
     refine wp_ret ?_
     exact ret_t hK rfl (u := (.bool false)) rfl (⟨by rw [same_sm, (decide_eq_true h3), (decide_eq_true h4), (decide_eq_true h5), (decide_eq_false h6)]; rfl, hM.below⟩)
   ·refine stepP hK 22 (.bool false) (by kernel_rfl) (okBool (b := (decide (s.loc = t.loc))) (run_eqS rfl rfl rfl) (decide_eq_false h5)) fun a hK => ?_
    refine stepP hK 23 (.bool false) (by kernel_rfl) (by kernel_rfl) fun a hK => ?_
    refine stepM hK 24 23 (by kernel_rfl) (.inl rfl) rfl fun a hK => ?_
    refine stepN hK 25 (by kernel_rfl) fun a hK => ?_
    refine stepN hK 26 (by kernel_rfl) fun a hK => ?_
    refine stepN hK 27 (by kernel_rfl) fun a hK => ?_
    refine stepN hK 28 (by kernel_rfl) fun a hK => ?_
    refine stepN hK 29 (by kernel_rfl) fun a hK => ?_
    refine stepP hK 30 (.bool false) (by kernel_rfl) (by kernel_rfl) fun a hK => ?_
    refine stepM hK 31 30 (by kernel_rfl) (.inl rfl) rfl fun a hK => ?_
    refine stepN hK 32 (by kernel_rfl) fun a hK => ?_
    refine stepN hK 33 (by kernel_rfl) fun a hK => ?_
    refine stepN hK 34 (by kernel_rfl) fun a hK => ?_
    refine stepN hK 35 (by kernel_rfl) fun a hK => ?_
    refine stepN hK 36 (by kernel_rfl) fun a hK => ?_
    refine stepP hK 37 (.bool false) (by kernel_rfl) (by kernel_rfl) fun a hK => ?_
    refine stepM hK 38 37 (by kernel_rfl) (.inl rfl) rfl fun a hK => ?_
    refine stepN hK 39 (by kernel_rfl) fun a hK => ?_
    refine stepN hK 40 (by kernel_rfl) fun a hK => ?_
    refine stepN hK 41 (by kernel_rfl) fun a hK => ?_
    refine stepN hK 42 (by kernel_rfl) fun a hK => ?_
    refine stepN hK 43 (by kernel_rfl) fun a hK => ?_
    refine stepP hK 44 (.bool false) (by kernel_rfl) (by kernel_rfl) fun a hK => ?_
    refine stepM hK 45 44 (by kernel_rfl) (.inl rfl) rfl fun a hK => ?_
    refine stepN hK 46 (by kernel_rfl) fun a hK => ?_
    refine stepN hK 47 (by kernel_rfl) fun a hK => ?_
    refine stepN hK 48 (by kernel_rfl) fun a hK => ?_
    refine stepN hK 49 (by kernel_rfl) fun a hK => ?_
    refine stepN hK 50 (by kernel_rfl) fun a hK => ?_
    refine stepP hK 51 (.bool false) (by kernel_rfl) (by kernel_rfl) fun a hK => ?_
    refine stepM hK 4 51 (by kernel_rfl) (.inr rfl) rfl fun a hK => ?_
    refine region_done hK [(4, .bool false), (3, pA b2 0), (2, pA b1 0), (0, vS s), (1, vS t)] ⟨rfl, rfl, rfl, rfl, rfl, trivial⟩ fun a hK => ?_
    refine wp_ret ?_
    exact ret_t hK rfl (u := (.bool false)) rfl (⟨by rw [same_sm, (decide_eq_true h3), (decide_eq_true h4), (decide_eq_false h5)]; rfl, hM.below⟩)
  ·refine stepP hK 15 (.bool false) (by kernel_rfl) (okBool (b := (decide (s.nm = t.nm))) (run_eqS rfl rfl rfl) (decide_eq_false h4)) fun a hK => ?_
   refine stepP hK 16 (.bool false) (by kernel_rfl) (by kernel_rfl) fun a hK => ?_
   refine stepM hK 17 16 (by kernel_rfl) (.inl rfl) rfl fun a hK => ?_
   refine stepN hK 18 (by kernel_rfl) fun a hK => ?_
   refine stepN hK 19 (by kernel_rfl) fun a hK => ?_
   refine stepN hK 20 (by kernel_rfl) fun a hK => ?_
   refine stepN hK 21 (by kernel_rfl) fun a hK => ?_
   refine stepN hK 22 (by kernel_rfl) fun a hK => ?_
   refine stepP hK 23 (.bool false) (by kernel_rfl) (by kernel_rfl) fun a hK => ?_
   refine stepM hK 24 23 (by kernel_rfl) (.inl rfl) rfl fun a hK => ?_
   refine stepN hK 25 (by kernel_rfl) fun a hK => ?_
   refine stepN hK 26 (by kernel_rfl) fun a hK => ?_
   refine stepN hK 27 (by kernel_rfl) fun a hK => ?_
   refine stepN hK 28 (by kernel_rfl) fun a hK => ?_
   refine stepN hK 29 (by kernel_rfl) fun a hK => ?_
   refine stepP hK 30 (.bool false) (by kernel_rfl) (by kernel_rfl) fun a hK => ?_
   refine stepM hK 31 30 (by kernel_rfl) (.inl rfl) rfl fun a hK => ?_
   refine stepN hK 32 (by kernel_rfl) fun a hK => ?_
   refine stepN hK 33 (by kernel_rfl) fun a hK => ?_
   refine stepN hK 34 (by kernel_rfl) fun a hK => ?_
   refine stepN hK 35 (by kernel_rfl) fun a hK => ?_
   refine stepN hK 36 (by kernel_rfl) fun a hK => ?_
   refine stepP hK 37 (.bool false) (by kernel_rfl) (by kernel_rfl) fun a hK => ?_
   refine stepM hK 38 37 (by kernel_rfl) (.inl rfl) rfl fun a hK => ?_
   refine stepN hK 39 (by kernel_rfl) fun a hK => ?_
   refine stepN hK 40 (by kernel_rfl) fun a hK => ?_
   refine stepN hK 41 (by kernel_rfl) fun a hK => ?_
   refine stepN hK 42 (by kernel_rfl) fun a hK => ?_
   refine stepN hK 43 (by kernel_rfl) fun a hK => ?_
   refine stepP hK 44 (.bool false) (by kernel_rfl) (by kernel_rfl) fun a hK => ?_
   refine stepM hK 45 44 (by kernel_rfl) (.inl rfl) rfl fun a hK => ?_
   refine stepN hK 46 (by kernel_rfl) fun a hK => ?_
   refine stepN hK 47 (by kernel_rfl) fun a hK => ?_
   refine stepN hK 48 (by kernel_rfl) fun a hK => ?_
   refine stepN hK 49 (by kernel_rfl) fun a hK => ?_
   refine stepN hK 50 (by kernel_rfl) fun a hK => ?_
   refine stepP hK 51 (.bool false) (by kernel_rfl) (by kernel_rfl) fun a hK => ?_
   refine stepM hK 4 51 (by kernel_rfl) (.inr rfl) rfl fun a hK => ?_
   refine region_done hK [(4, .bool false), (3, pA b2 0), (2, pA b1 0), (0, vS s), (1, vS t)] ⟨rfl, rfl, rfl, rfl, rfl, trivial⟩ fun a hK => ?_
   refine wp_ret ?_
   exact ret_t hK rfl (u := (.bool false)) rfl (⟨by rw [same_sm, (decide_eq_true h3), (decide_eq_false h4)]; rfl, hM.below⟩)
 ·refine stepP hK 9 (.bool false) (by kernel_rfl) (okBool (b := (decide ((s.kind : Int) = t.kind))) (by kernel_rfl) (decide_eq_false h3)) fun a hK => ?_
  refine stepM hK 10 9 (by kernel_rfl) (.inl rfl) rfl fun a hK => ?_
  refine stepN hK 11 (by kernel_rfl) fun a hK => ?_
  refine stepN hK 12 (by kernel_rfl) fun a hK => ?_
  refine stepN hK 13 (by kernel_rfl) fun a hK => ?_
  refine stepN hK 14 (by kernel_rfl) fun a hK => ?_
  refine stepN hK 15 (by kernel_rfl) fun a hK => ?_
  refine stepP hK 16 (.bool false) (by kernel_rfl) (by kernel_rfl) fun a hK => ?_
  refine stepM hK 17 16 (by kernel_rfl) (.inl rfl) rfl fun a hK => ?_
  refine stepN hK 18 (by kernel_rfl) fun a hK => ?_
  refine stepN hK 19 (by kernel_rfl) fun a hK => ?_
  refine stepN hK 20 (by kernel_rfl) fun a hK => ?_
  refine stepN hK 21 (by kernel_rfl) fun a hK => ?_
  refine stepN hK 22 (by kernel_rfl) fun a hK => ?_
  refine stepP hK 23 (.bool false) (by kernel_rfl) (by kernel_rfl) fun a hK => ?_
  refine stepM hK 24 23 (by kernel_rfl) (.inl rfl) rfl fun a hK => ?_
  refine stepN hK 25 (by kernel_rfl) fun a hK => ?_
  refine stepN hK 26 (by kernel_rfl) fun a hK => ?_
  refine stepN hK 27 (by kernel_rfl) fun a hK => ?_
  refine stepN hK 28 (by kernel_rfl) fun a hK => ?_
  refine stepN hK 29 (by kernel_rfl) fun a hK => ?_
  refine stepP hK 30 (.bool false) (by kernel_rfl) (by kernel_rfl) fun a hK => ?_
  refine stepM hK 31 30 (by kernel_rfl) (.inl rfl) rfl fun a hK => ?_
  refine stepN hK 32 (by kernel_rfl) fun a hK => ?_
  refine stepN hK 33 (by kernel_rfl) fun a hK => ?_
  refine stepN hK 34 (by kernel_rfl) fun a hK => ?_
  refine stepN hK 35 (by kernel_rfl) fun a hK => ?_
  refine stepN hK 36 (by kernel_rfl) fun a hK => ?_
  refine stepP hK 37 (.bool false) (by kernel_rfl) (by kernel_rfl) fun a hK => ?_
  refine stepM hK 38 37 (by kernel_rfl) (.inl rfl) rfl fun a hK => ?_
  refine stepN hK 39 (by kernel_rfl) fun a hK => ?_
  refine stepN hK 40 (by kernel_rfl) fun a hK => ?_
  refine stepN hK 41 (by kernel_rfl) fun a hK => ?_
  refine stepN hK 42 (by kernel_rfl) fun a hK => ?_
  refine stepN hK 43 (by kernel_rfl) fun a hK => ?_
  refine stepP hK 44 (.bool false) (by kernel_rfl) (by kernel_rfl) fun a hK => ?_
  refine stepM hK 45 44 (by kernel_rfl) (.inl rfl) rfl fun a hK => ?_
  refine stepN hK 46 (by kernel_rfl) fun a hK => ?_
  refine stepN hK 47 (by kernel_rfl) fun a hK => ?_
  refine stepN hK 48 (by kernel_rfl) fun a hK => ?_
  refine stepN hK 49 (by kernel_rfl) fun a hK => ?_
  refine stepN hK 50 (by kernel_rfl) fun a hK => ?_
  refine stepP hK 51 (.bool false) (by kernel_rfl) (by kernel_rfl) fun a hK => ?_
  refine stepM hK 4 51 (by kernel_rfl) (.inr rfl) rfl fun a hK => ?_
  refine region_done hK [(4, .bool false), (3, pA b2 0), (2, pA b1 0), (0, vS s), (1, vS t)] ⟨rfl, rfl, rfl, rfl, rfl, trivial⟩ fun a hK => ?_
  refine wp_ret ?_
  exact ret_t hK rfl (u := (.bool false)) rfl (⟨by rw [same_sm, (decide_eq_false h3)]; rfl, hM.below⟩)
set_option maxRecDepth 100000 in
set_option maxHeartbeats 4000000 in
theorem ast_eqSm (l : List Sm) (ih : ∀ s ∈ l, ∀ (t : Sm) (w0 : World), SmAt w0 s → SmAt w0 t → Calls Tryd.prog 78 #[vS s, vS t] w0 (Ret w0 (.bool (s.same t)))) : ∀ (m : List Sm) (A : Option Addr) (c : Nat) (B : Option Addr) (d : Nat) (w0 : World), SmsAt w0 A l → SmsAt w0 B m → l.length ≤ 9223372036854775807 → m.length ≤ 9223372036854775807 → Calls Tryd.prog 77 #[.slice A l.length c, .slice B m.length d, .func (.func 78) #[] #[]] w0 (Ret w0 (.bool (smsEq l m))) := by
 intro m A c B d w0 hl hm hln hmn
 refine calls_K (args := [.slice A l.length c, .slice B m.length d, .func (.func 78) #[] #[]]) (n := 32) (env := [(0, .slice A l.length c), (1, .slice B m.length d), (2, .func (.func 78) #[] #[])]) Tryd.func77 rfl rfl rfl ⟨rfl, rfl, rfl, trivial⟩ fun a w hK hM => ?_
 refine wp_seq ?_
 refine region_go (lst := [0]) (by kernel_rfl) ?_
 refine stepP hK 6 (.bool false) (by kernel_rfl) (by kernel_rfl) fun a hK => ?_
 refine region_done hK [(6, .bool false), (0, .slice A l.length c), (1, .slice B m.length d), (2, .func (.func 78) #[] #[])] ⟨rfl, rfl, rfl, rfl, trivial⟩ fun a hK => ?_
 refine wp_seq ?_
 refine wp_seq ?_
 refine region_go (lst := [0, 1, 2, 3, 4]) (by kernel_rfl) ?_
 refine stepM hK 10 0 (by kernel_rfl) (.inl rfl) rfl fun a hK => ?_
 refine stepP hK 11 (.int .i64 ((l.length : Nat) : Int)) (by kernel_rfl) (by kernel_rfl) fun a hK => ?_
 refine stepM hK 12 1 (by kernel_rfl) (.inl rfl) rfl fun a hK => ?_
 refine stepP hK 13 (.int .i64 ((m.length : Nat) : Int)) (by kernel_rfl) (by kernel_rfl) fun a hK => ?_
 rcases Bool.eq_false_or_eq_true (!(decide ((((l.length : Nat) : Int) : Int) = ((m.length : Nat) : Int)))) with h1 | h1
 ·refine stepP hK 14 (.bool true) (by kernel_rfl) (okBool (b := (!(decide ((((l.length : Nat) : Int) : Int) = ((m.length : Nat) : Int))))) (by kernel_rfl) h1) fun a hK => ?_
  refine region_done hK [(14, .bool true), (6, .bool false), (0, .slice A l.length c), (1, .slice B m.length d), (2, .func (.func 78) #[] #[])] ⟨rfl, rfl, rfl, rfl, rfl, trivial⟩ fun a hK => ?_
  refine wp_cond_true (hK.get rfl) ?_
  refine wp_seq ?_
  refine region_go (lst := [0]) (by kernel_rfl) ?_
  refine stepP hK 6 (.bool false) (by kernel_rfl) (by kernel_rfl) fun a hK => ?_
  refine region_done hK [(6, .bool false), (14, .bool true), (0, .slice A l.length c), (1, .slice B m.length d), (2, .func (.func 78) #[] #[])] ⟨rfl, rfl, rfl, rfl, rfl, trivial⟩ fun a hK => ?_
  refine wp_ret ?_
  exact ret_t hK rfl (u := (.bool false)) rfl (⟨by unfold smsEq neI; rw [h1]; rfl, hM.below⟩)
 ·refine stepP hK 14 (.bool false) (by kernel_rfl) (okBool (b := (!(decide ((((l.length : Nat) : Int) : Int) = ((m.length : Nat) : Int))))) (by kernel_rfl) h1) fun a hK => ?_
  refine region_done hK [(14, .bool false), (6, .bool false), (0, .slice A l.length c), (1, .slice B m.length d), (2, .func (.func 78) #[] #[])] ⟨rfl, rfl, rfl, rfl, rfl, trivial⟩ fun a hK => ?_
  refine wp_cond_false (hK.get rfl) ?_
  refine wp_skip ?_
  refine wp_seq ?_
  refine wp_seq ?_
  have hne : neI ((l.length : Nat) : Int) ((m.length : Nat) : Int) = false := by unfold neI; rw [h1]
  have hlen : l.length = m.length := by have q := h1; simp at q; omega
  refine region_go (lst := [0, 1, 2]) (by kernel_rfl) ?_
  refine stepM hK 15 0 (by kernel_rfl) (.inl rfl) rfl fun a hK => ?_
  refine stepP hK 16 (.int .i64 ((l.length : Nat) : Int)) (by kernel_rfl) (by kernel_rfl) fun a hK => ?_
  refine stepP hK 17 (.int .i64 0) (by kernel_rfl) (by kernel_rfl) fun a hK => ?_
  refine region_done hK [(17, .int .i64 0), (16, .int .i64 ((l.length : Nat) : Int)), (15, .slice A l.length c), (14, .bool false), (6, .bool false), (0, .slice A l.length c), (1, .slice B m.length d), (2, .func (.func 78) #[] #[])] ⟨rfl, rfl, rfl, rfl, rfl, rfl, rfl, rfl, trivial⟩ fun a hK => ?_
  refine wp_block ?_
  refine wp_loopX (fun x : Nat => [(16, .int .i64 ((l.length : Nat) : Int)), (15, .slice A l.length c), (14, .bool false), (6, .bool false), (0, .slice A l.length c), (1, .slice B m.length d), (2, .func (.func 78) #[] #[]), (17, vN x)]) (fun x : Nat => []) (fun x : Nat => x ≤ l.length ∧ smsSame (l.drop x) (m.drop x) = smsSame l m) (fun x : Nat => l.length - x) 0 (hK.sub ⟨rfl, rfl, rfl, rfl, rfl, rfl, rfl, rfl, trivial⟩) hM ⟨Nat.zero_le _, rfl⟩ ?_
  rintro i a w hK hM hR
  replace hK : Knows a 32 [(16, .int .i64 ((l.length : Nat) : Int)), (15, .slice A l.length c), (14, .bool false), (6, .bool false), (0, .slice A l.length c), (1, .slice B m.length d), (2, .func (.func 78) #[] #[]), (17, vN i)] := hK
  replace hM : Mem w0 w [] := hM
  replace hR : i ≤ l.length ∧ smsSame (l.drop i) (m.drop i) = smsSame l m := hR
  refine wp_seq ?_
  refine region_go (lst := [0]) (by kernel_rfl) ?_
  by_cases h2 : (((i : Nat) : Int) : Int) < ((l.length : Nat) : Int)
  ·refine stepP hK 18 (.bool true) (by kernel_rfl) (okBool (b := (decide ((((i : Nat) : Int) : Int) < ((l.length : Nat) : Int)))) (by kernel_rfl) (decide_eq_true h2)) fun a hK => ?_
   refine region_done hK [(18, .bool true), (16, .int .i64 ((l.length : Nat) : Int)), (15, .slice A l.length c), (14, .bool false), (6, .bool false), (0, .slice A l.length c), (1, .slice B m.length d), (2, .func (.func 78) #[] #[]), (17, vN i)] ⟨rfl, rfl, rfl, rfl, rfl, rfl, rfl, rfl, rfl, trivial⟩ fun a hK => ?_
   refine wp_seq ?_
   refine wp_cond_true (hK.get rfl) ?_
   refine wp_skip ?_
   refine wp_seq ?_
   refine wp_block ?_
   refine wp_seq ?_
   refine region_go (lst := [0, 1, 2, 3, 4, 5]) (by kernel_rfl) ?_
   refine stepM hK 19 17 (by kernel_rfl) (.inl rfl) rfl fun a hK => ?_
   obtain ⟨t3, ht3⟩ : ∃ t, l[(i : Nat)]? = some t := ⟨_, List.getElem?_eq_getElem (by omega)⟩
   obtain ⟨⟨at3, At3, ct3⟩, et3⟩ := hl _ _ ht3; have nt3 := et3.len
   refine stepP hK 20 (.pointer (some (at3.add (i * 7)))) (by kernel_rfl) (run_ixA (k := i) (s := 7) rfl rfl At3 rfl Tryd.underlying28 (by kernel_rfl) (by omega)) fun a hK => ?_
   refine stepLoad hK 21 (vS t3) (by kernel_rfl) rfl rfl ((ct3.on hM.below)) (by kernel_rfl) fun a hK => ?_
   refine stepAlloc hK hM 8 30 [.int .i64 0, Str [], Str [], .int .i64 0, .slice none 0 0, .slice none 0 0, .slice none 0 0] (fun b => pA b 0) (by kernel_rfl) (by kernel_rfl) fun b4 a w hK hM => ?_
   refine stepM hK 7 19 (by kernel_rfl) (.inr rfl) rfl fun a hK => ?_
   refine stepStore hK hM 0 (cS t3) (by kernel_rfl) rfl rfl rfl rfl (by kernel_rfl) fun w hM => ?_
   replace hM := hM.to [.row b4 30 (cS t3)] (by kernel_rfl)
   refine region_done hK [(7, vN i), (8, pA b4 0), (18, .bool true), (16, .int .i64 ((l.length : Nat) : Int)), (15, .slice A l.length c), (14, .bool false), (6, .bool false), (0, .slice A l.length c), (1, .slice B m.length d), (2, .func (.func 78) #[] #[]), (17, vN i)] ⟨rfl, rfl, rfl, rfl, rfl, rfl, rfl, rfl, rfl, rfl, rfl, trivial⟩ fun a hK => ?_
   refine wp_seq ?_
   refine region_go (lst := [0, 1, 2, 3, 4, 5]) (by kernel_rfl) ?_
   refine stepM hK 22 1 (by kernel_rfl) (.inl rfl) rfl fun a hK => ?_
   refine stepM hK 23 7 (by kernel_rfl) (.inl rfl) rfl fun a hK => ?_
   obtain ⟨t5, ht5⟩ : ∃ t, m[(i : Nat)]? = some t := ⟨_, List.getElem?_eq_getElem (by omega)⟩
   obtain ⟨⟨at5, At5, ct5⟩, et5⟩ := hm _ _ ht5; have nt5 := et5.len
   refine stepP hK 24 (.pointer (some (at5.add (i * 7)))) (by kernel_rfl) (run_ixA (k := i) (s := 7) rfl rfl At5 rfl Tryd.underlying28 (by kernel_rfl) (by omega)) fun a hK => ?_
   refine stepLoad hK 25 (vS t5) (by kernel_rfl) rfl rfl ((ct5.on hM.below)) (by kernel_rfl) fun a hK => ?_
   refine stepAlloc hK hM 9 30 [.int .i64 0, Str [], Str [], .int .i64 0, .slice none 0 0, .slice none 0 0, .slice none 0 0] (fun b => pA b 0) (by kernel_rfl) (by kernel_rfl) fun b6 a w hK hM => ?_
   refine stepStore hK hM 0 (cS t5) (by kernel_rfl) rfl rfl rfl rfl (by kernel_rfl) fun w hM => ?_
   replace hM := hM.to [.row b6 30 (cS t5), .row b4 30 (cS t3)] (by kernel_rfl)
   refine region_done hK [(9, pA b6 0), (7, vN i), (8, pA b4 0), (18, .bool true), (16, .int .i64 ((l.length : Nat) : Int)), (15, .slice A l.length c), (14, .bool false), (6, .bool false), (0, .slice A l.length c), (1, .slice B m.length d), (2, .func (.func 78) #[] #[]), (17, vN i)] ⟨rfl, rfl, rfl, rfl, rfl, rfl, rfl, rfl, rfl, rfl, rfl, rfl, trivial⟩ fun a hK => ?_
   refine wp_seq ?_
   refine region_go (lst := [0, 1, 2, 3, 4]) (by kernel_rfl) ?_
   refine stepM hK 26 2 (by kernel_rfl) (.inl rfl) rfl fun a hK => ?_
   refine stepLoad hK 27 (vS t3) (by kernel_rfl) rfl rfl ((hM.row 1 rfl).cells 0 7) (by kernel_rfl) fun a hK => ?_
   refine stepLoad hK 28 (vS t5) (by kernel_rfl) rfl rfl ((hM.row 0 rfl).cells 0 7) (by kernel_rfl) fun a hK => ?_
   rcases Bool.eq_false_or_eq_true (t3.same t5) with h7 | h7
   ·refine stepRet hK hM 29 #[vS t3, vS t5] (.bool true) (by kernel_rfl) (run_callE en_ast_sameStmt rfl rfl (by kernel_rfl)) (ret_eq (ih t3 (List.mem_of_getElem? ht3) t5 _ (et3.on hM.below) (et5.on hM.below)) (congrArg Value.bool h7)) fun a w hK hM => ?_
    refine stepP hK 30 (.bool false) (by kernel_rfl) (by kernel_rfl) fun a hK => ?_
    refine region_done hK [(30, .bool false), (9, pA b6 0), (7, vN i), (8, pA b4 0), (18, .bool true), (16, .int .i64 ((l.length : Nat) : Int)), (15, .slice A l.length c), (14, .bool false), (6, .bool false), (0, .slice A l.length c), (1, .slice B m.length d), (2, .func (.func 78) #[] #[]), (17, vN i)] ⟨rfl, rfl, rfl, rfl, rfl, rfl, rfl, rfl, rfl, rfl, rfl, rfl, rfl, trivial⟩ fun a hK => ?_
    refine wp_cond_false (hK.get rfl) ?_
    refine wp_skip ?_
    refine region_go (lst := [0, 1]) (by kernel_rfl) ?_
    refine stepP hK 31 (.int .i64 (((i + 1) : Nat) : Int)) (by kernel_rfl) (run_addN (i := i) (j := 1) rfl rfl rfl (by omega)) fun a hK => ?_
    refine stepM hK 17 31 (by kernel_rfl) (.inl rfl) rfl fun a hK => ?_
    refine region_done hK [(17, .int .i64 (((i + 1) : Nat) : Int)), (30, .bool false), (9, pA b6 0), (7, vN i), (8, pA b4 0), (18, .bool true), (16, .int .i64 ((l.length : Nat) : Int)), (15, .slice A l.length c), (14, .bool false), (6, .bool false), (0, .slice A l.length c), (1, .slice B m.length d), (2, .func (.func 78) #[] #[])] ⟨rfl, rfl, rfl, rfl, rfl, rfl, rfl, rfl, rfl, rfl, rfl, rfl, rfl, trivial⟩ fun a hK => ?_
    have hRn : (i + 1) ≤ l.length ∧ smsSame (l.drop (i + 1)) (m.drop (i + 1)) = smsSame l m := ⟨by omega, by rw [← hR.2, smsSame_step ht3 ht5, h7, Bool.true_and]⟩
    have hmn : l.length - (i + 1) < l.length - i := by omega
    exact ⟨i + 1, hK.sub ⟨rfl, rfl, rfl, rfl, rfl, rfl, rfl, rfl, trivial⟩, (hM.drop 2), hRn, hmn⟩
   ·refine stepRet hK hM 29 #[vS t3, vS t5] (.bool false) (by kernel_rfl) (run_callE en_ast_sameStmt rfl rfl (by kernel_rfl)) (ret_eq (ih t3 (List.mem_of_getElem? ht3) t5 _ (et3.on hM.below) (et5.on hM.below)) (congrArg Value.bool h7)) fun a w hK hM => ?_
    refine stepP hK 30 (.bool true) (by kernel_rfl) (by kernel_rfl) fun a hK => ?_
    refine region_done hK [(30, .bool true), (9, pA b6 0), (7, vN i), (8, pA b4 0), (18, .bool true), (16, .int .i64 ((l.length : Nat) : Int)), (15, .slice A l.length c), (14, .bool false), (6, .bool false), (0, .slice A l.length c), (1, .slice B m.length d), (2, .func (.func 78) #[] #[]), (17, vN i)] ⟨rfl, rfl, rfl, rfl, rfl, rfl, rfl, rfl, rfl, rfl, rfl, rfl, rfl, trivial⟩ fun a hK => ?_
    refine wp_cond_true (hK.get rfl) ?_
    refine wp_seq ?_
    refine region_go (lst := [0]) (by kernel_rfl) ?_
    refine stepP hK 6 (.bool false) (by kernel_rfl) (by kernel_rfl) fun a hK => ?_
    refine region_done hK [(6, .bool false), (30, .bool true), (9, pA b6 0), (7, vN i), (8, pA b4 0), (18, .bool true), (16, .int .i64 ((l.length : Nat) : Int)), (15, .slice A l.length c), (14, .bool false), (0, .slice A l.length c), (1, .slice B m.length d), (2, .func (.func 78) #[] #[]), (17, vN i)] ⟨rfl, rfl, rfl, rfl, rfl, rfl, rfl, rfl, rfl, rfl, rfl, rfl, rfl, trivial⟩ fun a hK => ?_
    refine wp_ret ?_
    exact ret_t hK rfl (u := (.bool false)) rfl (⟨by unfold smsEq; rw [hne, ← hR.2, smsSame_step ht3 ht5, h7]; rfl, hM.below⟩)
  ·refine stepP hK 18 (.bool false) (by kernel_rfl) (okBool (b := (decide ((((i : Nat) : Int) : Int) < ((l.length : Nat) : Int)))) (by kernel_rfl) (decide_eq_false h2)) fun a hK => ?_
   refine region_done hK [(18, .bool false), (16, .int .i64 ((l.length : Nat) : Int)), (15, .slice A l.length c), (14, .bool false), (6, .bool false), (0, .slice A l.length c), (1, .slice B m.length d), (2, .func (.func 78) #[] #[]), (17, vN i)] ⟨rfl, rfl, rfl, rfl, rfl, rfl, rfl, rfl, rfl, trivial⟩ fun a hK => ?_
   refine wp_seq ?_
   refine wp_cond_false (hK.get rfl) ?_
   refine wp_exit (exit_then (exit_then (exit_here 0 ?_)))
   refine wp_seq ?_
   refine region_go (lst := [0]) (by kernel_rfl) ?_
   refine stepP hK 6 (.bool true) (by kernel_rfl) (by kernel_rfl) fun a hK => ?_
   refine region_done hK [(6, .bool true), (18, .bool false), (16, .int .i64 ((l.length : Nat) : Int)), (15, .slice A l.length c), (14, .bool false), (0, .slice A l.length c), (1, .slice B m.length d), (2, .func (.func 78) #[] #[]), (17, vN i)] ⟨rfl, rfl, rfl, rfl, rfl, rfl, rfl, rfl, rfl, trivial⟩ fun a hK => ?_
   refine wp_ret ?_
   exact ret_t hK rfl (u := (.bool true)) rfl (⟨by unfold smsEq; rw [hne, ← hR.2, smsSame_end (by omega)]; rfl, hM.below⟩)
set_option maxRecDepth 100000 in
set_option maxHeartbeats 4000000 in
theorem ast_sameStmts (l : List Sm) : ∀ (m : List Sm) (A : Option Addr) (c : Nat) (B : Option Addr) (d : Nat) (w0 : World), SmsAt w0 A l → SmsAt w0 B m → l.length ≤ 9223372036854775807 → m.length ≤ 9223372036854775807 → Calls Tryd.prog 53 #[.slice A l.length c, .slice B m.length d] w0 (Ret w0 (.bool (smsEq l m))) := by
 induction l using sms_rec
 rename_i l ih
 intro m A c B d w0 hl hm hln hmn
 refine calls_K (args := [.slice A l.length c, .slice B m.length d]) (n := 8) (env := [(0, .slice A l.length c), (1, .slice B m.length d)]) Tryd.func53 rfl rfl rfl ⟨rfl, rfl, trivial⟩ fun a w hK hM => ?_
 refine wp_seq ?_
 refine region_go (lst := [0]) (by kernel_rfl) ?_
 refine stepP hK 4 (.bool false) (by kernel_rfl) (by kernel_rfl) fun a hK => ?_
 refine region_done hK [(4, .bool false), (0, .slice A l.length c), (1, .slice B m.length d)] ⟨rfl, rfl, rfl, trivial⟩ fun a hK => ?_
 refine wp_seq ?_
 refine region_go (lst := [0, 1, 2, 3]) (by kernel_rfl) ?_
 refine stepM hK 5 0 (by kernel_rfl) (.inl rfl) rfl fun a hK => ?_
 refine stepM hK 6 1 (by kernel_rfl) (.inl rfl) rfl fun a hK => ?_
 rcases Bool.eq_false_or_eq_true (smsEq l m) with h1 | h1
 ·refine stepRet hK hM 7 #[.slice A l.length c, .slice B m.length d, .func (.func 78) #[] #[]] (.bool true) (by kernel_rfl) (run_callE en_eq_Stmt rfl rfl (by kernel_rfl)) (ret_eq (ast_eqSm l (fun s hs => ast_sameStmt0 s (ih s hs).1 (ih s hs).2) m _ _ _ _ _ (hl.on hM.below) (hm.on hM.below) (by omega) (by omega)) (congrArg Value.bool h1)) fun a w hK hM => ?_
  refine stepM hK 4 7 (by kernel_rfl) (.inr rfl) rfl fun a hK => ?_
  refine region_done hK [(4, .bool true), (0, .slice A l.length c), (1, .slice B m.length d)] ⟨rfl, rfl, rfl, trivial⟩ fun a hK => ?_
  refine wp_ret ?_
  exact ret_t hK rfl (u := (.bool true)) rfl (⟨by rw [h1], hM.below⟩)
 ·refine stepRet hK hM 7 #[.slice A l.length c, .slice B m.length d, .func (.func 78) #[] #[]] (.bool false) (by kernel_rfl) (run_callE en_eq_Stmt rfl rfl (by kernel_rfl)) (ret_eq (ast_eqSm l (fun s hs => ast_sameStmt0 s (ih s hs).1 (ih s hs).2) m _ _ _ _ _ (hl.on hM.below) (hm.on hM.below) (by omega) (by omega)) (congrArg Value.bool h1)) fun a w hK hM => ?_
  refine stepM hK 4 7 (by kernel_rfl) (.inr rfl) rfl fun a hK => ?_
  refine region_done hK [(4, .bool false), (0, .slice A l.length c), (1, .slice B m.length d)] ⟨rfl, rfl, rfl, trivial⟩ fun a hK => ?_
  refine wp_ret ?_
  exact ret_t hK rfl (u := (.bool false)) rfl (⟨by rw [h1], hM.below⟩)
end Go.Proofs.YtiigncmpbkfhmaaDoor
namespace Go.Proofs.YtiigncmpbkfhmaaDoor
open Go Go.RowKit
theorem en_ast_copyStmt : Enters Tryd.prog 76 := enters_of Tryd.func76 (by kernel_rfl) rfl
theorem en_ast_copyStmts : Enters Tryd.prog 50 := enters_of Tryd.func50 (by kernel_rfl) rfl
theorem en_each_Stmt : Enters Tryd.prog 75 := enters_of Tryd.func75 (by kernel_rfl) rfl
def GivesS (w0 : World) (s : Sm) : Ending → World → Prop := Gives w0 (fun x : Sm × List It => (.agg #[.int .i64 x.1.kind, Str x.1.nm, Str x.1.loc, .int .i64 x.1.ord, .slice x.1.A1 x.1.es.length x.1.c1, .slice x.1.A2 x.1.th.length x.1.c2, .slice x.1.A3 x.1.el.length x.1.c3] : Value)) (fun x => x.2) fun x => x.1.same s = true ∧ SmRows x.2 x.1
def GivesSs (w0 : World) (l : List Sm) : Ending → World → Prop := Gives w0 (fun x : List Sm × Option Addr × Nat × List It => (.slice x.2.1 x.1.length x.2.2.1 : Value)) (fun x => x.2.2.2) fun x => smsEq x.1 l = true ∧ RowIn x.2.2.2 30 x.2.1 (x.1.flatMap cS) ∧ ∀ y ∈ x.1, SmRows x.2.2.2 y
def samePtsS (done l : List Sm) : Prop := ∀ (k : Nat) (u v : Sm), done[k]? = some u → l[k]? = some v → u.same v = true
theorem samePtsS_all : ∀ {done l : List Sm}, samePtsS done l → smsSame done l = true := by
 intro done
 induction done with
 | nil => intro l _; cases l <;> rw [smsSame] <;> simp
 | cons x r ih =>
  intro l h
  cases l with
  | nil => rw [smsSame]; simp
  | cons y s => rw [smsSame, h 0 x y rfl rfl, ih (fun k u v hu hv => h (k + 1) u v (by simpa using hu) (by simpa using hv))]; rfl
theorem sms_none {w : World} {A : Option Addr} {l : List Sm} (h : SmsAt w A l) (hA : A.isNone = true) : l = [] := by
 cases l with
 | nil => rfl
 | cons x r => obtain ⟨⟨a, e, _⟩, _⟩ := h 0 x rfl; rw [e] at hA; simp at hA
theorem same_snocS {l done : List Sm} {i : Nat} {e q : Sm} (h : samePtsS done l) (hi : done.length = i) (hq : l[i]? = some q) (hs : e.same q = true) : samePtsS (done ++ [e]) l := by
 intro k x y hx hy
 rcases Nat.lt_or_ge k done.length with hk | hk
 ·rw [List.getElem?_append_left hk] at hx; exact h k x y hx hy
 ·rw [List.getElem?_append_right hk] at hx
  have hk2 : k = i := by
   have := (List.getElem?_eq_some_iff.1 hx).1
   simp at this; omega
  subst hk2
  rw [hi, Nat.sub_self] at hx
  obtain rfl : e = x := by simpa using hx
  rw [hq] at hy
  obtain rfl := Option.some.inj hy
  exact hs
set_option maxRecDepth 100000 in
set_option maxHeartbeats 4000000 in
theorem ast_eachSm (l : List Sm) (ih : ∀ x ∈ l, ∀ w0 : World, SmAt w0 x → Calls Tryd.prog 76 #[vS x] w0 (GivesS w0 x)) : ∀ (A : Option Addr) (c : Nat) (w0 : World), SmsAt w0 A l → l.length ≤ 1000000 → Calls Tryd.prog 75 #[.slice A l.length c, .func (.func 76) #[] #[]] w0 (GivesSs w0 l) := by
 intro A c w0 hl hln
 refine calls_K (args := [.slice A l.length c, .func (.func 76) #[] #[]]) (n := 28) (env := [(0, .slice A l.length c), (1, .func (.func 76) #[] #[])]) Tryd.func75 rfl rfl rfl ⟨rfl, rfl, trivial⟩ fun a w hK hM => ?_
 refine wp_seq ?_
 refine region_go (lst := [0]) (by kernel_rfl) ?_
 refine stepP hK 4 (.slice none 0 0) (by kernel_rfl) (by kernel_rfl) fun a hK => ?_
 refine region_done hK [(4, .slice none 0 0), (0, .slice A l.length c), (1, .func (.func 76) #[] #[])] ⟨rfl, rfl, rfl, trivial⟩ fun a hK => ?_
 refine wp_seq ?_
 refine wp_seq ?_
 refine region_go (lst := [0, 1]) (by kernel_rfl) ?_
 refine stepM hK 8 0 (by kernel_rfl) (.inl rfl) rfl fun a hK => ?_
 rcases Bool.eq_false_or_eq_true (A).isNone with h1 | h1
 ·refine stepP hK 9 (.bool true) (by kernel_rfl) (okBool (b := (A).isNone) (run_eqNil rfl rfl rfl Tryd.underlying28) h1) fun a hK => ?_
  refine region_done hK [(9, .bool true), (4, .slice none 0 0), (0, .slice A l.length c), (1, .func (.func 76) #[] #[])] ⟨rfl, rfl, rfl, rfl, trivial⟩ fun a hK => ?_
  refine wp_cond_true (hK.get rfl) ?_
  refine wp_seq ?_
  refine region_go (lst := [0]) (by kernel_rfl) ?_
  refine stepP hK 4 (.slice none 0 0) (by kernel_rfl) (by kernel_rfl) fun a hK => ?_
  refine region_done hK [(4, .slice none 0 0), (9, .bool true), (0, .slice A l.length c), (1, .func (.func 76) #[] #[])] ⟨rfl, rfl, rfl, rfl, trivial⟩ fun a hK => ?_
  refine wp_ret ?_
  exact ret_t hK rfl (u := (.slice none 0 0)) rfl (⟨([], none, 0, []), rfl, hM, by rw [sms_none hl h1]; rfl, .inl rfl, fun y hy => by cases hy⟩)
 ·refine stepP hK 9 (.bool false) (by kernel_rfl) (okBool (b := (A).isNone) (run_eqNil rfl rfl rfl Tryd.underlying28) h1) fun a hK => ?_
  refine region_done hK [(9, .bool false), (4, .slice none 0 0), (0, .slice A l.length c), (1, .func (.func 76) #[] #[])] ⟨rfl, rfl, rfl, rfl, trivial⟩ fun a hK => ?_
  refine wp_cond_false (hK.get rfl) ?_
  refine wp_skip ?_
  refine wp_seq ?_
  refine region_go (lst := [0, 1, 2, 3]) (by kernel_rfl) ?_
  refine stepM hK 10 0 (by kernel_rfl) (.inl rfl) rfl fun a hK => ?_
  refine stepP hK 11 (.int .i64 ((l.length : Nat) : Int)) (by kernel_rfl) (by kernel_rfl) fun a hK => ?_
  refine stepMake hK hM 12 [.int .i64 0, Str [], Str [], .int .i64 0, .slice none 0 0, .slice none 0 0, .slice none 0 0] l.length 120 Tryd.underlying28 (by kernel_rfl) (by kernel_rfl) rfl rfl rfl (by omega) fun b2 a w hK hM => ?_
  refine stepM hK 5 12 (by kernel_rfl) (.inr rfl) rfl fun a hK => ?_
  refine region_done hK [(5, .slice (some ⟨b2, 0, none⟩) l.length l.length), (9, .bool false), (4, .slice none 0 0), (0, .slice A l.length c), (1, .func (.func 76) #[] #[])] ⟨rfl, rfl, rfl, rfl, rfl, trivial⟩ fun a hK => ?_
  refine wp_seq ?_
  refine wp_seq ?_
  refine region_go (lst := [0, 1, 2]) (by kernel_rfl) ?_
  refine stepM hK 13 0 (by kernel_rfl) (.inl rfl) rfl fun a hK => ?_
  refine stepP hK 14 (.int .i64 ((l.length : Nat) : Int)) (by kernel_rfl) (by kernel_rfl) fun a hK => ?_
  refine stepP hK 15 (.int .i64 0) (by kernel_rfl) (by kernel_rfl) fun a hK => ?_
  refine region_done hK [(15, .int .i64 0), (14, .int .i64 ((l.length : Nat) : Int)), (13, .slice A l.length c), (5, .slice (some ⟨b2, 0, none⟩) l.length l.length), (9, .bool false), (4, .slice none 0 0), (0, .slice A l.length c), (1, .func (.func 76) #[] #[])] ⟨rfl, rfl, rfl, rfl, rfl, rfl, rfl, rfl, trivial⟩ fun a hK => ?_
  refine wp_block ?_
  refine wp_loopX (fun x : Nat × (List Sm) × (List It) => [(14, .int .i64 ((l.length : Nat) : Int)), (13, .slice A l.length c), (5, .slice (some ⟨b2, 0, none⟩) l.length l.length), (9, .bool false), (4, .slice none 0 0), (0, .slice A l.length c), (1, .func (.func 76) #[] #[]), (15, .int .i64 ((x.1 : Nat) : Int))]) (fun x : Nat × (List Sm) × (List It) => (.row b2 30 (x.2.1.flatMap cS ++ zerosL (l.length - x.1) [.int .i64 0, Str [], Str [], .int .i64 0, .slice none 0 0, .slice none 0 0, .slice none 0 0]) :: x.2.2)) (fun x : Nat × (List Sm) × (List It) => x.1 ≤ l.length ∧ x.2.1.length = x.1 ∧ samePtsS x.2.1 l ∧ ∀ u ∈ x.2.1, SmRows x.2.2 u) (fun x : Nat × (List Sm) × (List It) => l.length - x.1) (0, [], []) (hK.sub ⟨rfl, rfl, rfl, rfl, rfl, rfl, rfl, rfl, trivial⟩) hM ⟨Nat.zero_le _, rfl, fun k x y hx => by simp at hx, fun x hx => by simp at hx⟩ ?_
  rintro ⟨i, done, F⟩ a w hK hM hR
  replace hK : Knows a 28 [(14, .int .i64 ((l.length : Nat) : Int)), (13, .slice A l.length c), (5, .slice (some ⟨b2, 0, none⟩) l.length l.length), (9, .bool false), (4, .slice none 0 0), (0, .slice A l.length c), (1, .func (.func 76) #[] #[]), (15, vN i)] := hK
  replace hM : Mem w0 w (.row b2 30 (done.flatMap cS ++ zerosL (l.length - i) [.int .i64 0, Str [], Str [], .int .i64 0, .slice none 0 0, .slice none 0 0, .slice none 0 0]) :: F) := hM
  replace hR : i ≤ l.length ∧ done.length = i ∧ samePtsS done l ∧ ∀ u ∈ done, SmRows F u := hR
  refine wp_seq ?_
  refine region_go (lst := [0]) (by kernel_rfl) ?_
  by_cases h3 : (((i : Nat) : Int) : Int) < ((l.length : Nat) : Int)
  ·refine stepP hK 16 (.bool true) (by kernel_rfl) (okBool (b := (decide ((((i : Nat) : Int) : Int) < ((l.length : Nat) : Int)))) (by kernel_rfl) (decide_eq_true h3)) fun a hK => ?_
   refine region_done hK [(16, .bool true), (14, .int .i64 ((l.length : Nat) : Int)), (13, .slice A l.length c), (5, .slice (some ⟨b2, 0, none⟩) l.length l.length), (9, .bool false), (4, .slice none 0 0), (0, .slice A l.length c), (1, .func (.func 76) #[] #[]), (15, vN i)] ⟨rfl, rfl, rfl, rfl, rfl, rfl, rfl, rfl, rfl, trivial⟩ fun a hK => ?_
   refine wp_seq ?_
   refine wp_cond_true (hK.get rfl) ?_
   refine wp_skip ?_
   refine wp_seq ?_
   refine wp_block ?_
   refine wp_seq ?_
   refine region_go (lst := [0, 1, 2, 3, 4, 5]) (by kernel_rfl) ?_
   refine stepM hK 17 15 (by kernel_rfl) (.inl rfl) rfl fun a hK => ?_
   obtain ⟨t4, ht4⟩ : ∃ t, l[(i : Nat)]? = some t := ⟨_, List.getElem?_eq_getElem (by omega)⟩
   obtain ⟨⟨at4, At4, ct4⟩, et4⟩ := hl _ _ ht4; have nt4 := et4.len
   refine stepP hK 18 (.pointer (some (at4.add (i * 7)))) (by kernel_rfl) (run_ixA (k := i) (s := 7) rfl rfl At4 rfl Tryd.underlying28 (by kernel_rfl) (by omega)) fun a hK => ?_
   refine stepLoad hK 19 (vS t4) (by kernel_rfl) rfl rfl ((ct4.on hM.below)) (by kernel_rfl) fun a hK => ?_
   refine stepAlloc hK hM 7 30 [.int .i64 0, Str [], Str [], .int .i64 0, .slice none 0 0, .slice none 0 0, .slice none 0 0] (fun b => pA b 0) (by kernel_rfl) (by kernel_rfl) fun b5 a w hK hM => ?_
   refine stepM hK 6 17 (by kernel_rfl) (.inr rfl) rfl fun a hK => ?_
   refine stepStore hK hM 0 (cS t4) (by kernel_rfl) rfl rfl rfl rfl (by kernel_rfl) fun w hM => ?_
   replace hM := hM.to (.row b5 30 (cS t4) :: .row b2 30 (done.flatMap cS ++ zerosL (l.length - i) [.int .i64 0, Str [], Str [], .int .i64 0, .slice none 0 0, .slice none 0 0, .slice none 0 0]) :: F) (by kernel_rfl)
   refine region_done hK [(6, vN i), (7, pA b5 0), (16, .bool true), (14, .int .i64 ((l.length : Nat) : Int)), (13, .slice A l.length c), (5, .slice (some ⟨b2, 0, none⟩) l.length l.length), (9, .bool false), (4, .slice none 0 0), (0, .slice A l.length c), (1, .func (.func 76) #[] #[]), (15, vN i)] ⟨rfl, rfl, rfl, rfl, rfl, rfl, rfl, rfl, rfl, rfl, rfl, trivial⟩ fun a hK => ?_
   refine region_go (lst := [0, 1, 2, 3, 4, 5, 6]) (by kernel_rfl) ?_
   refine stepM hK 20 5 (by kernel_rfl) (.inl rfl) rfl fun a hK => ?_
   refine stepM hK 21 6 (by kernel_rfl) (.inl rfl) rfl fun a hK => ?_
   refine stepM hK 22 1 (by kernel_rfl) (.inl rfl) rfl fun a hK => ?_
   refine stepLoad hK 23 (vS t4) (by kernel_rfl) rfl rfl ((hM.row 0 rfl).cells 0 7) (by kernel_rfl) fun a hK => ?_
   refine stepCall hK hM 24 #[vS t4] (by kernel_rfl) (run_callE en_ast_copyStmt rfl rfl (by kernel_rfl)) (ih t4 (List.mem_of_getElem? ht4) _ (et4.on hM.below)) ?_
   rintro ⟨e6, G6⟩ a w ⟨hs6, hr6⟩ hK hM
   replace hM := (Mem.comm hM).to ((.row b5 30 (cS t4) :: .row b2 30 (done.flatMap cS ++ zerosL (l.length - i) [.int .i64 0, Str [], Str [], .int .i64 0, .slice none 0 0, .slice none 0 0, .slice none 0 0]) :: (F ++ G6))) (by kernel_rfl)
   refine stepP hK 25 (.pointer (some ⟨b2, i * 7, none⟩)) (by kernel_rfl) (run_ixG (k := i) (s := 7) rfl rfl rfl Tryd.underlying28 (by kernel_rfl) (by omega)) fun a hK => ?_
   refine stepStoreAt hK hM 1 (cS e6) (((done ++ [e6]).flatMap cS ++ zerosL (l.length - (i + 1)) [.int .i64 0, Str [], Str [], .int .i64 0, .slice none 0 0, .slice none 0 0, .slice none 0 0])) (by kernel_rfl) rfl rfl rfl rfl (by kernel_rfl) rfl rfl (by rw [List.length_append, flat_len (s := 7) (fun _ => rfl), zerosL_length, hR.2.1]; simp only [List.length_cons, List.length_nil]; omega) ((put_next (A := done.flatMap cS) (new := cS e6) (zs := [.int .i64 0, Str [], Str [], .int .i64 0, .slice none 0 0, .slice none 0 0, .slice none 0 0]) (m := l.length - i) (k := i * 7) (by rw [flat_len (s := 7) (fun _ => rfl), hR.2.1]) rfl (by omega)).trans (by rw [List.flatMap_append]; simp [Nat.sub_sub])) fun w hM => ?_
   replace hM := hM.to ((.row b5 30 (cS t4) :: .row b2 30 (((done ++ [e6]).flatMap cS ++ zerosL (l.length - (i + 1)) [.int .i64 0, Str [], Str [], .int .i64 0, .slice none 0 0, .slice none 0 0, .slice none 0 0])) :: (F ++ G6))) (by kernel_rfl)
   refine region_done hK [(6, vN i), (7, pA b5 0), (16, .bool true), (14, .int .i64 ((l.length : Nat) : Int)), (13, .slice A l.length c), (5, .slice (some ⟨b2, 0, none⟩) l.length l.length), (9, .bool false), (4, .slice none 0 0), (0, .slice A l.length c), (1, .func (.func 76) #[] #[]), (15, vN i)] ⟨rfl, rfl, rfl, rfl, rfl, rfl, rfl, rfl, rfl, rfl, rfl, trivial⟩ fun a hK => ?_
   refine region_go (lst := [0, 1]) (by kernel_rfl) ?_
   refine stepP hK 26 (.int .i64 (((i + 1) : Nat) : Int)) (by kernel_rfl) (run_addN (i := i) (j := 1) rfl rfl rfl (by omega)) fun a hK => ?_
   refine stepM hK 15 26 (by kernel_rfl) (.inl rfl) rfl fun a hK => ?_
   refine region_done hK [(15, .int .i64 (((i + 1) : Nat) : Int)), (6, vN i), (7, pA b5 0), (16, .bool true), (14, .int .i64 ((l.length : Nat) : Int)), (13, .slice A l.length c), (5, .slice (some ⟨b2, 0, none⟩) l.length l.length), (9, .bool false), (4, .slice none 0 0), (0, .slice A l.length c), (1, .func (.func 76) #[] #[])] ⟨rfl, rfl, rfl, rfl, rfl, rfl, rfl, rfl, rfl, rfl, rfl, trivial⟩ fun a hK => ?_
   have hRn : (i + 1) ≤ l.length ∧ ((done ++ [e6])).length = (i + 1) ∧ samePtsS ((done ++ [e6])) l ∧ ∀ u ∈ ((done ++ [e6])), SmRows ((F ++ G6)) u := ⟨by omega, by simp [hR.2.1], same_snocS hR.2.2.1 hR.2.1 ht4 hs6, fun x hx => (List.mem_append.1 hx).elim (fun h => (hR.2.2.2 x h).mono fun it hi => List.mem_append_left _ hi) fun h => by obtain rfl := List.mem_singleton.1 h; exact hr6.mono fun it hi => List.mem_append_right _ hi⟩
   have hmn : l.length - (i + 1) < l.length - i := by omega
   exact ⟨(i + 1, (done ++ [e6]), (F ++ G6)), hK.sub ⟨rfl, rfl, rfl, rfl, rfl, rfl, rfl, rfl, trivial⟩, (hM.drop 1), hRn, hmn⟩
  ·refine stepP hK 16 (.bool false) (by kernel_rfl) (okBool (b := (decide ((((i : Nat) : Int) : Int) < ((l.length : Nat) : Int)))) (by kernel_rfl) (decide_eq_false h3)) fun a hK => ?_
   refine region_done hK [(16, .bool false), (14, .int .i64 ((l.length : Nat) : Int)), (13, .slice A l.length c), (5, .slice (some ⟨b2, 0, none⟩) l.length l.length), (9, .bool false), (4, .slice none 0 0), (0, .slice A l.length c), (1, .func (.func 76) #[] #[]), (15, vN i)] ⟨rfl, rfl, rfl, rfl, rfl, rfl, rfl, rfl, rfl, trivial⟩ fun a hK => ?_
   refine wp_seq ?_
   refine wp_cond_false (hK.get rfl) ?_
   refine wp_exit (exit_then (exit_then (exit_here 0 ?_)))
   refine wp_seq ?_
   refine region_go (lst := [0, 1]) (by kernel_rfl) ?_
   refine stepM hK 27 5 (by kernel_rfl) (.inl rfl) rfl fun a hK => ?_
   refine stepM hK 4 27 (by kernel_rfl) (.inr rfl) rfl fun a hK => ?_
   refine region_done hK [(4, .slice (some ⟨b2, 0, none⟩) l.length l.length), (16, .bool false), (14, .int .i64 ((l.length : Nat) : Int)), (13, .slice A l.length c), (5, .slice (some ⟨b2, 0, none⟩) l.length l.length), (9, .bool false), (0, .slice A l.length c), (1, .func (.func 76) #[] #[]), (15, vN i)] ⟨rfl, rfl, rfl, rfl, rfl, rfl, rfl, rfl, rfl, trivial⟩ fun a hK => ?_
   refine wp_ret ?_
   exact ret_t hK rfl (u := (.slice (some ⟨b2, 0, none⟩) l.length l.length)) rfl (⟨(done, some ⟨b2, 0, none⟩, l.length, .row b2 30 (done.flatMap cS) :: F), by show Ending.returned (Value.slice _ l.length l.length) = Ending.returned (Value.slice _ done.length l.length); rw [show done.length = l.length by omega], hM.to _ (by rw [Nat.sub_eq_zero_of_le (by omega)]; simp [zerosL]), by unfold smsEq neI; rw [show done.length = l.length by omega, samePtsS_all hR.2.2.1]; simp, .inr ⟨b2, rfl, List.mem_cons_self⟩, fun y hy => (hR.2.2.2 y hy).mono fun it hi => List.mem_cons_of_mem _ hi⟩)
theorem smsEq_len {l m : List Sm} (h : smsEq l m = true) : l.length = m.length := by
 unfold smsEq neI at h
 simp only [Bool.not_not, Bool.and_eq_true, decide_eq_true_eq] at h
 omega
theorem same_mkS {s : Sm} {A1 A2 A3 : Option Addr} {c1 c2 c3 : Nat} {es : List Ex} {th el : List Sm} (h1 : exsEq es s.es = true) (h2 : smsEq th s.th = true) (h3 : smsEq el s.el = true) : (Sm.mk s.kind s.nm s.loc s.ord A1 c1 es A2 c2 th A3 c3 el).same s = true := by
 rw [same_sm]
 show (decide (s.kind = s.kind) && (decide (s.nm = s.nm) && (decide (s.loc = s.loc) && (decide (s.ord = s.ord) && (exsEq es s.es && (smsEq th s.th && smsEq el s.el)))))) = true
 rw [h1, h2, h3]; simp
theorem rows_mkS {s : Sm} {A1 A2 A3 : Option Addr} {c1 c2 c3 : Nat} {es : List Ex} {th el : List Sm} {F G1 G2 G3 : List It} (hn : s.nm.length ≤ 65536 ∧ s.loc.length ≤ 65536) (hk : s.es.length ≤ 1000000 ∧ s.th.length ≤ 1000000 ∧ s.el.length ≤ 1000000) (h1 : exsEq es s.es = true) (h2 : smsEq th s.th = true) (h3 : smsEq el s.el = true)
  (i1 : RowIn G1 36 A1 (es.flatMap cE)) (r1 : ∀ y ∈ es, ExRows G1 y) (i2 : RowIn G2 30 A2 (th.flatMap cS)) (r2 : ∀ y ∈ th, SmRows G2 y) (i3 : RowIn G3 30 A3 (el.flatMap cS)) (r3 : ∀ y ∈ el, SmRows G3 y)
  (m1 : ∀ it ∈ G1, it ∈ F) (m2 : ∀ it ∈ G2, it ∈ F) (m3 : ∀ it ∈ G3, it ∈ F) : SmRows F (.mk s.kind s.nm s.loc s.ord A1 c1 es A2 c2 th A3 c3 el) :=
 .mk _ ⟨by show s.nm.length ≤ _; omega, by show s.loc.length ≤ _; omega, by show es.length ≤ _; rw [exsEq_len h1]; omega, by show th.length ≤ _; rw [smsEq_len h2]; omega, by show el.length ≤ _; rw [smsEq_len h3]; omega⟩ (i1.mono m1) (fun y hy => (r1 y hy).mono m1) (i2.mono m2) (fun y hy => (r2 y hy).mono m2) (i3.mono m3) fun y hy => (r3 y hy).mono m3
set_option maxRecDepth 100000 in
set_option maxHeartbeats 4000000 in
theorem ast_copyStmt0 (s : Sm) (h1 : ∀ (A : Option Addr) (c : Nat) (w0 : World), SmsAt w0 A s.th → s.th.length ≤ 1000000 → Calls Tryd.prog 50 #[.slice A s.th.length c] w0 (GivesSs w0 s.th)) (h2 : ∀ (A : Option Addr) (c : Nat) (w0 : World), SmsAt w0 A s.el → s.el.length ≤ 1000000 → Calls Tryd.prog 50 #[.slice A s.el.length c] w0 (GivesSs w0 s.el)) : ∀ (w0 : World), SmAt w0 s → s.sh = true → exsSz s.es ≤ 1000000 → s.th.length ≤ 1000000 → s.el.length ≤ 1000000 → Calls Tryd.prog 76 #[vS s] w0 (GivesS w0 s) := by
 intro w0 hs hsh hsz hth hel
 have hssh := sm_sh hsh; have hln := exsSz_len s.es
 refine calls_K (args := [vS s]) (n := 24) (env := [(0, vS s)]) Tryd.func76 rfl rfl rfl ⟨rfl, trivial⟩ fun a w hK hM => ?_
 refine wp_seq ?_
 refine region_go (lst := [0, 1]) (by kernel_rfl) ?_
 refine stepAlloc hK hM 1 30 (cS s) (fun b => pA b 0) (by kernel_rfl) (by kernel_rfl) fun b1 a w hK hM => ?_
 refine stepAlloc hK hM 2 30 [.int .i64 0, Str [], Str [], .int .i64 0, .slice none 0 0, .slice none 0 0, .slice none 0 0] (fun b => pA b 0) (by kernel_rfl) (by kernel_rfl) fun b2 a w hK hM => ?_
 refine region_done hK [(2, pA b2 0), (1, pA b1 0), (0, vS s)] ⟨rfl, rfl, rfl, trivial⟩ fun a hK => ?_
 refine wp_seq ?_
 refine wp_cut (fun a w => Knows a 24 [(2, pA b2 0), (1, pA b1 0), (0, vS s)] ∧ Mem w0 w [.row b2 30 [.int .i64 0, Str [], Str [], .int .i64 0, .slice none 0 0, .slice none 0 0, .slice none 0 0], .row b1 30 (cS s)]) ?_ ?_
 ·refine region_tree hM (by kernel_rfl) 10 (by kernel_rfl) #[false, false, false, false, false, false, false, false, false, false] (by kernel_rfl) ?_
  clear hM; intro w hM
  refine treeP hK 0 3 (pA b1 1) (by kernel_rfl) (by kernel_rfl) (by kernel_rfl) (fun w => (by kernel_rfl)) #[true, false, false, false, false, false, false, false, false, false] (by kernel_rfl) fun a hK => ?_
  refine treeP hK 3 6 (pA b1 2) (by kernel_rfl) (by kernel_rfl) (by kernel_rfl) (fun w => (by kernel_rfl)) #[true, false, false, true, false, false, false, false, false, false] (by kernel_rfl) fun a hK => ?_
  refine treeM [1, 4] (by kernel_rfl) rfl ⟨?_, ?_, trivial⟩
  ·refine stepLoad hK 4 (Str s.nm) (by kernel_rfl) rfl rfl ((hM.row 1 rfl).cells 1 1) (by kernel_rfl) fun a hK => ?_
   refine tree_next #[true, true, false, true, false, false, false, false, false, false] (by kernel_rfl) ?_
   refine treeM [2, 4] (by kernel_rfl) rfl ⟨?_, ?_, trivial⟩
   ·refine stepRet hK hM 5 #[Str s.nm] (Str s.nm) (by kernel_rfl) (run_callE en_strings_Clone rfl rfl (by kernel_rfl)) (lib_Clone s.nm _ (by omega)) fun a w hK hM => ?_
    refine tree_next #[true, true, true, true, false, false, false, false, false, false] (by kernel_rfl) ?_
    refine treeM [4] (by kernel_rfl) rfl ⟨?_, trivial⟩
    refine stepLoad hK 7 (Str s.loc) (by kernel_rfl) rfl rfl ((hM.row 1 rfl).cells 2 1) (by kernel_rfl) fun a hK => ?_
    refine tree_next #[true, true, true, true, true, false, false, false, false, false] (by kernel_rfl) ?_
    refine treeP hK 6 9 (pA b1 1) (by kernel_rfl) (by kernel_rfl) (by kernel_rfl) (fun w => (by kernel_rfl)) #[true, true, true, true, true, false, true, false, false, false] (by kernel_rfl) fun a hK => ?_
    refine treeM [5] (by kernel_rfl) rfl ⟨?_, trivial⟩
    refine stepRet hK hM 8 #[Str s.loc] (Str s.loc) (by kernel_rfl) (run_callE en_strings_Clone rfl rfl (by kernel_rfl)) (lib_Clone s.loc _ (by omega)) fun a w hK hM => ?_
    refine tree_next #[true, true, true, true, true, true, true, false, false, false] (by kernel_rfl) ?_
    refine treeM [7] (by kernel_rfl) rfl ⟨?_, trivial⟩
    refine stepStore hK hM 1 (cS s) (by kernel_rfl) rfl rfl rfl rfl (by kernel_rfl) fun w hM => ?_
    replace hM := hM.to [.row b2 30 [.int .i64 0, Str [], Str [], .int .i64 0, .slice none 0 0, .slice none 0 0, .slice none 0 0], .row b1 30 (cS s)] (by kernel_rfl)
    refine tree_next #[true, true, true, true, true, true, true, true, false, false] (by kernel_rfl) ?_
    refine treeP hK 8 10 (pA b1 2) (by kernel_rfl) (by kernel_rfl) (by kernel_rfl) (fun w => (by kernel_rfl)) #[true, true, true, true, true, true, true, true, true, false] (by kernel_rfl) fun a hK => ?_
    refine treeM [9] (by kernel_rfl) rfl ⟨?_, trivial⟩
    refine stepStore hK hM 1 (cS s) (by kernel_rfl) rfl rfl rfl rfl (by kernel_rfl) fun w hM => ?_
    replace hM := hM.to [.row b2 30 [.int .i64 0, Str [], Str [], .int .i64 0, .slice none 0 0, .slice none 0 0, .slice none 0 0], .row b1 30 (cS s)] (by kernel_rfl)
    refine tree_next #[true, true, true, true, true, true, true, true, true, true] (by kernel_rfl) ?_
    exact treeE (by kernel_rfl) ⟨hK.sub ⟨rfl, rfl, rfl, trivial⟩, hM⟩
   ·refine stepLoad hK 7 (Str s.loc) (by kernel_rfl) rfl rfl ((hM.row 1 rfl).cells 2 1) (by kernel_rfl) fun a hK => ?_
    refine tree_next #[true, true, false, true, true, false, false, false, false, false] (by kernel_rfl) ?_
    refine treeM [2] (by kernel_rfl) rfl ⟨?_, trivial⟩
    refine stepRet hK hM 5 #[Str s.nm] (Str s.nm) (by kernel_rfl) (run_callE en_strings_Clone rfl rfl (by kernel_rfl)) (lib_Clone s.nm _ (by omega)) fun a w hK hM => ?_
    refine tree_next #[true, true, true, true, true, false, false, false, false, false] (by kernel_rfl) ?_
    refine treeP hK 6 9 (pA b1 1) (by kernel_rfl) (by kernel_rfl) (by kernel_rfl) (fun w => (by kernel_rfl)) #[true, true, true, true, true, false, true, false, false, false] (by kernel_rfl) fun a hK => ?_
    refine treeM [5] (by kernel_rfl) rfl ⟨?_, trivial⟩
    refine stepRet hK hM 8 #[Str s.loc] (Str s.loc) (by kernel_rfl) (run_callE en_strings_Clone rfl rfl (by kernel_rfl)) (lib_Clone s.loc _ (by omega)) fun a w hK hM => ?_
    refine tree_next #[true, true, true, true, true, true, true, false, false, false] (by kernel_rfl) ?_
    refine treeM [7] (by kernel_rfl) rfl ⟨?_, trivial⟩
    refine stepStore hK hM 1 (cS s) (by kernel_rfl) rfl rfl rfl rfl (by kernel_rfl) fun w hM => ?_
    replace hM := hM.to [.row b2 30 [.int .i64 0, Str [], Str [], .int .i64 0, .slice none 0 0, .slice none 0 0, .slice none 0 0], .row b1 30 (cS s)] (by kernel_rfl)
    refine tree_next #[true, true, true, true, true, true, true, true, false, false] (by kernel_rfl) ?_
    refine treeP hK 8 10 (pA b1 2) (by kernel_rfl) (by kernel_rfl) (by kernel_rfl) (fun w => (by kernel_rfl)) #[true, true, true, true, true, true, true, true, true, false] (by kernel_rfl) fun a hK => ?_
    refine treeM [9] (by kernel_rfl) rfl ⟨?_, trivial⟩
    refine stepStore hK hM 1 (cS s) (by kernel_rfl) rfl rfl rfl rfl (by kernel_rfl) fun w hM => ?_
    replace hM := hM.to [.row b2 30 [.int .i64 0, Str [], Str [], .int .i64 0, .slice none 0 0, .slice none 0 0, .slice none 0 0], .row b1 30 (cS s)] (by kernel_rfl)
    refine tree_next #[true, true, true, true, true, true, true, true, true, true] (by kernel_rfl) ?_
    exact treeE (by kernel_rfl) ⟨hK.sub ⟨rfl, rfl, rfl, trivial⟩, hM⟩
  ·refine stepLoad hK 7 (Str s.loc) (by kernel_rfl) rfl rfl ((hM.row 1 rfl).cells 2 1) (by kernel_rfl) fun a hK => ?_
   refine tree_next #[true, false, false, true, true, false, false, false, false, false] (by kernel_rfl) ?_
   refine treeM [1] (by kernel_rfl) rfl ⟨?_, trivial⟩
   refine stepLoad hK 4 (Str s.nm) (by kernel_rfl) rfl rfl ((hM.row 1 rfl).cells 1 1) (by kernel_rfl) fun a hK => ?_
   refine tree_next #[true, true, false, true, true, false, false, false, false, false] (by kernel_rfl) ?_
   refine treeM [2] (by kernel_rfl) rfl ⟨?_, trivial⟩
   refine stepRet hK hM 5 #[Str s.nm] (Str s.nm) (by kernel_rfl) (run_callE en_strings_Clone rfl rfl (by kernel_rfl)) (lib_Clone s.nm _ (by omega)) fun a w hK hM => ?_
   refine tree_next #[true, true, true, true, true, false, false, false, false, false] (by kernel_rfl) ?_
   refine treeP hK 6 9 (pA b1 1) (by kernel_rfl) (by kernel_rfl) (by kernel_rfl) (fun w => (by kernel_rfl)) #[true, true, true, true, true, false, true, false, false, false] (by kernel_rfl) fun a hK => ?_
   refine treeM [5] (by kernel_rfl) rfl ⟨?_, trivial⟩
   refine stepRet hK hM 8 #[Str s.loc] (Str s.loc) (by kernel_rfl) (run_callE en_strings_Clone rfl rfl (by kernel_rfl)) (lib_Clone s.loc _ (by omega)) fun a w hK hM => ?_
   refine tree_next #[true, true, true, true, true, true, true, false, false, false] (by kernel_rfl) ?_
   refine treeM [7] (by kernel_rfl) rfl ⟨?_, trivial⟩
   refine stepStore hK hM 1 (cS s) (by kernel_rfl) rfl rfl rfl rfl (by kernel_rfl) fun w hM => ?_
   replace hM := hM.to [.row b2 30 [.int .i64 0, Str [], Str [], .int .i64 0, .slice none 0 0, .slice none 0 0, .slice none 0 0], .row b1 30 (cS s)] (by kernel_rfl)
   refine tree_next #[true, true, true, true, true, true, true, true, false, false] (by kernel_rfl) ?_
   refine treeP hK 8 10 (pA b1 2) (by kernel_rfl) (by kernel_rfl) (by kernel_rfl) (fun w => (by kernel_rfl)) #[true, true, true, true, true, true, true, true, true, false] (by kernel_rfl) fun a hK => ?_
   refine treeM [9] (by kernel_rfl) rfl ⟨?_, trivial⟩
   refine stepStore hK hM 1 (cS s) (by kernel_rfl) rfl rfl rfl rfl (by kernel_rfl) fun w hM => ?_
   replace hM := hM.to [.row b2 30 [.int .i64 0, Str [], Str [], .int .i64 0, .slice none 0 0, .slice none 0 0, .slice none 0 0], .row b1 30 (cS s)] (by kernel_rfl)
   refine tree_next #[true, true, true, true, true, true, true, true, true, true] (by kernel_rfl) ?_
   exact treeE (by kernel_rfl) ⟨hK.sub ⟨rfl, rfl, rfl, trivial⟩, hM⟩
 rintro a w ⟨hK, hM⟩
 refine wp_seq ?_
 refine wp_cut (fun a w => ∃ (A2_2 : Option Addr), ∃ (A2_5 : Option Addr), ∃ (A2_8 : Option Addr), ∃ (G2_2 : List It), ∃ (G2_5 : List It), ∃ (G2_8 : List It), ∃ (K2_2 : List Ex), ∃ (K2_5 : List Sm), ∃ (K2_8 : List Sm), ∃ (c2_2 : Nat), ∃ (c2_5 : Nat), ∃ (c2_8 : Nat), Knows a 24 [(2, pA b2 0), (1, pA b1 0), (0, vS s)] ∧ Mem w0 w (.row b2 30 [.int .i64 0, Str [], Str [], .int .i64 0, .slice none 0 0, .slice none 0 0, .slice none 0 0] :: .row b1 30 [.int .i64 s.kind, Str s.nm, Str s.loc, .int .i64 s.ord, .slice A2_2 K2_2.length c2_2, .slice A2_5 K2_5.length c2_5, .slice A2_8 K2_8.length c2_8] :: ((G2_2 ++ G2_5) ++ G2_8)) ∧ (RowIn G2_2 36 A2_2 (K2_2.flatMap cE)) ∧ (RowIn G2_5 30 A2_5 (K2_5.flatMap cS)) ∧ (RowIn G2_8 30 A2_8 (K2_8.flatMap cS)) ∧ (exsEq K2_2 s.es = true) ∧ (smsEq K2_5 s.th = true) ∧ (smsEq K2_8 s.el = true) ∧ (∀ y ∈ K2_2, ExRows G2_2 y) ∧ (∀ y ∈ K2_5, SmRows G2_5 y) ∧ (∀ y ∈ K2_8, SmRows G2_8 y)) ?_ ?_
 ·refine region_tree hM (by kernel_rfl) 15 (by kernel_rfl) #[false, false, false, false, false, false, false, false, false, false, false, false, false, false, false] (by kernel_rfl) ?_
  clear hM; intro w hM
  refine treeP hK 0 11 (pA b1 4) (by kernel_rfl) (by kernel_rfl) (by kernel_rfl) (fun w => (by kernel_rfl)) #[true, false, false, false, false, false, false, false, false, false, false, false, false, false, false] (by kernel_rfl) fun a hK => ?_
  refine treeP hK 3 14 (pA b1 5) (by kernel_rfl) (by kernel_rfl) (by kernel_rfl) (fun w => (by kernel_rfl)) #[true, false, false, true, false, false, false, false, false, false, false, false, false, false, false] (by kernel_rfl) fun a hK => ?_
  refine treeP hK 6 17 (pA b1 6) (by kernel_rfl) (by kernel_rfl) (by kernel_rfl) (fun w => (by kernel_rfl)) #[true, false, false, true, false, false, true, false, false, false, false, false, false, false, false] (by kernel_rfl) fun a hK => ?_
  refine treeM [1, 4, 7] (by kernel_rfl) rfl ⟨?_, ?_, ?_, trivial⟩
  ·refine stepLoad hK 12 (.slice s.A1 s.es.length s.c1) (by kernel_rfl) rfl rfl ((hM.row 1 rfl).cells 4 1) (by kernel_rfl) fun a hK => ?_
   refine tree_next #[true, true, false, true, false, false, true, false, false, false, false, false, false, false, false] (by kernel_rfl) ?_
   refine treeM [2, 4, 7] (by kernel_rfl) rfl ⟨?_, ?_, ?_, trivial⟩
   ·refine stepCall hK hM 13 #[.slice s.A1 s.es.length s.c1, .func (.func 89) #[] #[]] (by kernel_rfl) (run_callE en_each_Expr rfl rfl (by kernel_rfl)) (ast_eachE s.es (fun x hx w1 h1 => ast_copyExpr x w1 h1 (exsSh_mem hssh.2.2.1 hx) (by have h8 := exsSz_mem hx; omega)) _ _ _ (hs.exprs.on hM.below) (by omega)) ?_
    rintro ⟨K2_2, A2_2, c2_2, G2_2⟩ a w ⟨hq2_2, hi2_2, hr2_2⟩ hK hM
    replace hM := (Mem.comm hM).to ((.row b2 30 [.int .i64 0, Str [], Str [], .int .i64 0, .slice none 0 0, .slice none 0 0, .slice none 0 0] :: .row b1 30 (cS s) :: G2_2)) (by kernel_rfl)
    refine tree_next #[true, true, true, true, false, false, true, false, false, false, false, false, false, false, false] (by kernel_rfl) ?_
    refine treeM [4, 7] (by kernel_rfl) rfl ⟨?_, ?_, trivial⟩
    ·refine stepLoad hK 15 (.slice s.A2 s.th.length s.c2) (by kernel_rfl) rfl rfl ((hM.row 1 rfl).cells 5 1) (by kernel_rfl) fun a hK => ?_
     refine tree_next #[true, true, true, true, true, false, true, false, false, false, false, false, false, false, false] (by kernel_rfl) ?_
     refine treeM [5, 7] (by kernel_rfl) rfl ⟨?_, ?_, trivial⟩
     ·refine stepCall hK hM 16 #[.slice s.A2 s.th.length s.c2] (by kernel_rfl) (run_callE en_ast_copyStmts rfl rfl (by kernel_rfl)) (h1 _ _ _ (hs.thn.on hM.below) (by omega)) ?_
      rintro ⟨K2_5, A2_5, c2_5, G2_5⟩ a w ⟨hq2_5, hi2_5, hr2_5⟩ hK hM
      replace hM := (Mem.comm hM).to ((.row b2 30 [.int .i64 0, Str [], Str [], .int .i64 0, .slice none 0 0, .slice none 0 0, .slice none 0 0] :: .row b1 30 (cS s) :: (G2_2 ++ G2_5))) (by kernel_rfl)
      refine tree_next #[true, true, true, true, true, true, true, false, false, false, false, false, false, false, false] (by kernel_rfl) ?_
      refine treeM [7] (by kernel_rfl) rfl ⟨?_, trivial⟩
      refine stepLoad hK 18 (.slice s.A3 s.el.length s.c3) (by kernel_rfl) rfl rfl ((hM.row 1 rfl).cells 6 1) (by kernel_rfl) fun a hK => ?_
      refine tree_next #[true, true, true, true, true, true, true, true, false, false, false, false, false, false, false] (by kernel_rfl) ?_
      refine treeP hK 9 20 (pA b1 4) (by kernel_rfl) (by kernel_rfl) (by kernel_rfl) (fun w => (by kernel_rfl)) #[true, true, true, true, true, true, true, true, false, true, false, false, false, false, false] (by kernel_rfl) fun a hK => ?_
      refine treeM [8] (by kernel_rfl) rfl ⟨?_, trivial⟩
      refine stepCall hK hM 19 #[.slice s.A3 s.el.length s.c3] (by kernel_rfl) (run_callE en_ast_copyStmts rfl rfl (by kernel_rfl)) (h2 _ _ _ (hs.els.on hM.below) (by omega)) ?_
      rintro ⟨K2_8, A2_8, c2_8, G2_8⟩ a w ⟨hq2_8, hi2_8, hr2_8⟩ hK hM
      replace hM := (Mem.comm hM).to ((.row b2 30 [.int .i64 0, Str [], Str [], .int .i64 0, .slice none 0 0, .slice none 0 0, .slice none 0 0] :: .row b1 30 (cS s) :: ((G2_2 ++ G2_5) ++ G2_8))) (by kernel_rfl)
      refine tree_next #[true, true, true, true, true, true, true, true, true, true, false, false, false, false, false] (by kernel_rfl) ?_
      refine treeM [10] (by kernel_rfl) rfl ⟨?_, trivial⟩
      refine stepStore hK hM 1 [.int .i64 s.kind, Str s.nm, Str s.loc, .int .i64 s.ord, .slice A2_2 K2_2.length c2_2, .slice s.A2 s.th.length s.c2, .slice s.A3 s.el.length s.c3] (by kernel_rfl) rfl rfl rfl rfl (by kernel_rfl) fun w hM => ?_
      replace hM := hM.to (.row b2 30 [.int .i64 0, Str [], Str [], .int .i64 0, .slice none 0 0, .slice none 0 0, .slice none 0 0] :: .row b1 30 [.int .i64 s.kind, Str s.nm, Str s.loc, .int .i64 s.ord, .slice A2_2 K2_2.length c2_2, .slice s.A2 s.th.length s.c2, .slice s.A3 s.el.length s.c3] :: ((G2_2 ++ G2_5) ++ G2_8)) (by kernel_rfl)
      refine tree_next #[true, true, true, true, true, true, true, true, true, true, true, false, false, false, false] (by kernel_rfl) ?_
      refine treeP hK 11 21 (pA b1 5) (by kernel_rfl) (by kernel_rfl) (by kernel_rfl) (fun w => (by kernel_rfl)) #[true, true, true, true, true, true, true, true, true, true, true, true, false, false, false] (by kernel_rfl) fun a hK => ?_
      refine treeM [12] (by kernel_rfl) rfl ⟨?_, trivial⟩
      refine stepStore hK hM 1 [.int .i64 s.kind, Str s.nm, Str s.loc, .int .i64 s.ord, .slice A2_2 K2_2.length c2_2, .slice A2_5 K2_5.length c2_5, .slice s.A3 s.el.length s.c3] (by kernel_rfl) rfl rfl rfl rfl (by kernel_rfl) fun w hM => ?_
      replace hM := hM.to (.row b2 30 [.int .i64 0, Str [], Str [], .int .i64 0, .slice none 0 0, .slice none 0 0, .slice none 0 0] :: .row b1 30 [.int .i64 s.kind, Str s.nm, Str s.loc, .int .i64 s.ord, .slice A2_2 K2_2.length c2_2, .slice A2_5 K2_5.length c2_5, .slice s.A3 s.el.length s.c3] :: ((G2_2 ++ G2_5) ++ G2_8)) (by kernel_rfl)
      refine tree_next #[true, true, true, true, true, true, true, true, true, true, true, true, true, false, false] (by kernel_rfl) ?_
      refine treeP hK 13 22 (pA b1 6) (by kernel_rfl) (by kernel_rfl) (by kernel_rfl) (fun w => (by kernel_rfl)) #[true, true, true, true, true, true, true, true, true, true, true, true, true, true, false] (by kernel_rfl) fun a hK => ?_
      refine treeM [14] (by kernel_rfl) rfl ⟨?_, trivial⟩
      refine stepStore hK hM 1 [.int .i64 s.kind, Str s.nm, Str s.loc, .int .i64 s.ord, .slice A2_2 K2_2.length c2_2, .slice A2_5 K2_5.length c2_5, .slice A2_8 K2_8.length c2_8] (by kernel_rfl) rfl rfl rfl rfl (by kernel_rfl) fun w hM => ?_
      replace hM := hM.to (.row b2 30 [.int .i64 0, Str [], Str [], .int .i64 0, .slice none 0 0, .slice none 0 0, .slice none 0 0] :: .row b1 30 [.int .i64 s.kind, Str s.nm, Str s.loc, .int .i64 s.ord, .slice A2_2 K2_2.length c2_2, .slice A2_5 K2_5.length c2_5, .slice A2_8 K2_8.length c2_8] :: ((G2_2 ++ G2_5) ++ G2_8)) (by kernel_rfl)
      refine tree_next #[true, true, true, true, true, true, true, true, true, true, true, true, true, true, true] (by kernel_rfl) ?_
      exact treeE (by kernel_rfl) ⟨A2_2, A2_5, A2_8, G2_2, G2_5, G2_8, K2_2, K2_5, K2_8, c2_2, c2_5, c2_8, hK.sub ⟨rfl, rfl, rfl, trivial⟩, hM, hi2_2, hi2_5, hi2_8, hq2_2, hq2_5, hq2_8, hr2_2, hr2_5, hr2_8⟩
     ·refine stepLoad hK 18 (.slice s.A3 s.el.length s.c3) (by kernel_rfl) rfl rfl ((hM.row 1 rfl).cells 6 1) (by kernel_rfl) fun a hK => ?_
      refine tree_next #[true, true, true, true, true, false, true, true, false, false, false, false, false, false, false] (by kernel_rfl) ?_
      refine treeP hK 9 20 (pA b1 4) (by kernel_rfl) (by kernel_rfl) (by kernel_rfl) (fun w => (by kernel_rfl)) #[true, true, true, true, true, false, true, true, false, true, false, false, false, false, false] (by kernel_rfl) fun a hK => ?_
      refine treeM [5] (by kernel_rfl) rfl ⟨?_, trivial⟩
      refine stepCall hK hM 16 #[.slice s.A2 s.th.length s.c2] (by kernel_rfl) (run_callE en_ast_copyStmts rfl rfl (by kernel_rfl)) (h1 _ _ _ (hs.thn.on hM.below) (by omega)) ?_
      rintro ⟨K2_5, A2_5, c2_5, G2_5⟩ a w ⟨hq2_5, hi2_5, hr2_5⟩ hK hM
      replace hM := (Mem.comm hM).to ((.row b2 30 [.int .i64 0, Str [], Str [], .int .i64 0, .slice none 0 0, .slice none 0 0, .slice none 0 0] :: .row b1 30 (cS s) :: (G2_2 ++ G2_5))) (by kernel_rfl)
      refine tree_next #[true, true, true, true, true, true, true, true, false, true, false, false, false, false, false] (by kernel_rfl) ?_
      refine treeM [8] (by kernel_rfl) rfl ⟨?_, trivial⟩
      refine stepCall hK hM 19 #[.slice s.A3 s.el.length s.c3] (by kernel_rfl) (run_callE en_ast_copyStmts rfl rfl (by kernel_rfl)) (h2 _ _ _ (hs.els.on hM.below) (by omega)) ?_
      rintro ⟨K2_8, A2_8, c2_8, G2_8⟩ a w ⟨hq2_8, hi2_8, hr2_8⟩ hK hM
      replace hM := (Mem.comm hM).to ((.row b2 30 [.int .i64 0, Str [], Str [], .int .i64 0, .slice none 0 0, .slice none 0 0, .slice none 0 0] :: .row b1 30 (cS s) :: ((G2_2 ++ G2_5) ++ G2_8))) (by kernel_rfl)
      refine tree_next #[true, true, true, true, true, true, true, true, true, true, false, false, false, false, false] (by kernel_rfl) ?_
      refine treeM [10] (by kernel_rfl) rfl ⟨?_, trivial⟩
      refine stepStore hK hM 1 [.int .i64 s.kind, Str s.nm, Str s.loc, .int .i64 s.ord, .slice A2_2 K2_2.length c2_2, .slice s.A2 s.th.length s.c2, .slice s.A3 s.el.length s.c3] (by kernel_rfl) rfl rfl rfl rfl (by kernel_rfl) fun w hM => ?_
      replace hM := hM.to (.row b2 30 [.int .i64 0, Str [], Str [], .int .i64 0, .slice none 0 0, .slice none 0 0, .slice none 0 0] :: .row b1 30 [.int .i64 s.kind, Str s.nm, Str s.loc, .int .i64 s.ord, .slice A2_2 K2_2.length c2_2, .slice s.A2 s.th.length s.c2, .slice s.A3 s.el.length s.c3] :: ((G2_2 ++ G2_5) ++ G2_8)) (by kernel_rfl)
      refine tree_next #[true, true, true, true, true, true, true, true, true, true, true, false, false, false, false] (by kernel_rfl) ?_
      refine treeP hK 11 21 (pA b1 5) (by kernel_rfl) (by kernel_rfl) (by kernel_rfl) (fun w => (by kernel_rfl)) #[true, true, true, true, true, true, true, true, true, true, true, true, false, false, false] (by kernel_rfl) fun a hK => ?_
      refine treeM [12] (by kernel_rfl) rfl ⟨?_, trivial⟩
      refine stepStore hK hM 1 [.int .i64 s.kind, Str s.nm, Str s.loc, .int .i64 s.ord, .slice A2_2 K2_2.length c2_2, .slice A2_5 K2_5.length c2_5, .slice s.A3 s.el.length s.c3] (by kernel_rfl) rfl rfl rfl rfl (by kernel_rfl) fun w hM => ?_
      replace hM := hM.to (.row b2 30 [.int .i64 0, Str [], Str [], .int .i64 0, .slice none 0 0, .slice none 0 0, .slice none 0 0] :: .row b1 30 [.int .i64 s.kind, Str s.nm, Str s.loc, .int .i64 s.ord, .slice A2_2 K2_2.length c2_2, .slice A2_5 K2_5.length c2_5, .slice s.A3 s.el.length s.c3] :: ((G2_2 ++ G2_5) ++ G2_8)) (by kernel_rfl)
      refine tree_next #[true, true, true, true, true, true, true, true, true, true, true, true, true, false, false] (by kernel_rfl) ?_
      refine treeP hK 13 22 (pA b1 6) (by kernel_rfl) (by kernel_rfl) (by kernel_rfl) (fun w => (by kernel_rfl)) #[true, true, true, true, true, true, true, true, true, true, true, true, true, true, false] (by kernel_rfl) fun a hK => ?_
      refine treeM [14] (by kernel_rfl) rfl ⟨?_, trivial⟩
      refine stepStore hK hM 1 [.int .i64 s.kind, Str s.nm, Str s.loc, .int .i64 s.ord, .slice A2_2 K2_2.length c2_2, .slice A2_5 K2_5.length c2_5, .slice A2_8 K2_8.length c2_8] (by kernel_rfl) rfl rfl rfl rfl (by kernel_rfl) fun w hM => ?_
      replace hM := hM.to (.row b2 30 [.int .i64 0, Str [], Str [], .int .i64 0, .slice none 0 0, .slice none 0 0, .slice none 0 0] :: .row b1 30 [.int .i64 s.kind, Str s.nm, Str s.loc, .int .i64 s.ord, .slice A2_2 K2_2.length c2_2, .slice A2_5 K2_5.length c2_5, .slice A2_8 K2_8.length c2_8] :: ((G2_2 ++ G2_5) ++ G2_8)) (by kernel_rfl)
      refine tree_next #[true, true, true, true, true, true, true, true, true, true, true, true, true, true, true] (by kernel_rfl) ?_
      exact treeE (by kernel_rfl) ⟨A2_2, A2_5, A2_8, G2_2, G2_5, G2_8, K2_2, K2_5, K2_8, c2_2, c2_5, c2_8, hK.sub ⟨rfl, rfl, rfl, trivial⟩, hM, hi2_2, hi2_5, hi2_8, hq2_2, hq2_5, hq2_8, hr2_2, hr2_5, hr2_8⟩
    ·refine stepLoad hK 18 (.slice s.A3 s.el.length s.c3) (by kernel_rfl) rfl rfl ((hM.row 1 rfl).cells 6 1) (by kernel_rfl) fun a hK => ?_
     refine tree_next #[true, true, true, true, false, false, true, true, false, false, false, false, false, false, false] (by kernel_rfl) ?_
     refine treeM [4] (by kernel_rfl) rfl ⟨?_, trivial⟩
     refine stepLoad hK 15 (.slice s.A2 s.th.length s.c2) (by kernel_rfl) rfl rfl ((hM.row 1 rfl).cells 5 1) (by kernel_rfl) fun a hK => ?_
     refine tree_next #[true, true, true, true, true, false, true, true, false, false, false, false, false, false, false] (by kernel_rfl) ?_
     refine treeP hK 9 20 (pA b1 4) (by kernel_rfl) (by kernel_rfl) (by kernel_rfl) (fun w => (by kernel_rfl)) #[true, true, true, true, true, false, true, true, false, true, false, false, false, false, false] (by kernel_rfl) fun a hK => ?_
     refine treeM [5] (by kernel_rfl) rfl ⟨?_, trivial⟩
     refine stepCall hK hM 16 #[.slice s.A2 s.th.length s.c2] (by kernel_rfl) (run_callE en_ast_copyStmts rfl rfl (by kernel_rfl)) (h1 _ _ _ (hs.thn.on hM.below) (by omega)) ?_
     rintro ⟨K2_5, A2_5, c2_5, G2_5⟩ a w ⟨hq2_5, hi2_5, hr2_5⟩ hK hM
     replace hM := (Mem.comm hM).to ((.row b2 30 [.int .i64 0, Str [], Str [], .int .i64 0, .slice none 0 0, .slice none 0 0, .slice none 0 0] :: .row b1 30 (cS s) :: (G2_2 ++ G2_5))) (by kernel_rfl)
     refine tree_next #[true, true, true, true, true, true, true, true, false, true, false, false, false, false, false] (by kernel_rfl) ?_
     refine treeM [8] (by kernel_rfl) rfl ⟨?_, trivial⟩
     refine stepCall hK hM 19 #[.slice s.A3 s.el.length s.c3] (by kernel_rfl) (run_callE en_ast_copyStmts rfl rfl (by kernel_rfl)) (h2 _ _ _ (hs.els.on hM.below) (by omega)) ?_
     rintro ⟨K2_8, A2_8, c2_8, G2_8⟩ a w ⟨hq2_8, hi2_8, hr2_8⟩ hK hM
     replace hM := (Mem.comm hM).to ((.row b2 30 [.int .i64 0, Str [], Str [], .int .i64 0, .slice none 0 0, .slice none 0 0, .slice none 0 0] :: .row b1 30 (cS s) :: ((G2_2 ++ G2_5) ++ G2_8))) (by kernel_rfl)
     refine tree_next #[true, true, true, true, true, true, true, true, true, true, false, false, false, false, false] (by kernel_rfl) ?_
     refine treeM [10] (by kernel_rfl) rfl ⟨?_, trivial⟩
     refine stepStore hK hM 1 [.int .i64 s.kind, Str s.nm, Str s.loc, .int .i64 s.ord, .slice A2_2 K2_2.length c2_2, .slice s.A2 s.th.length s.c2, .slice s.A3 s.el.length s.c3] (by kernel_rfl) rfl rfl rfl rfl (by kernel_rfl) fun w hM => ?_
     replace hM := hM.to (.row b2 30 [.int .i64 0, Str [], Str [], .int .i64 0, .slice none 0 0, .slice none 0 0, .slice none 0 0] :: .row b1 30 [.int .i64 s.kind, Str s.nm, Str s.loc, .int .i64 s.ord, .slice A2_2 K2_2.length c2_2, .slice s.A2 s.th.length s.c2, .slice s.A3 s.el.length s.c3] :: ((G2_2 ++ G2_5) ++ G2_8)) (by kernel_rfl)
     refine tree_next #[true, true, true, true, true, true, true, true, true, true, true, false, false, false, false] (by kernel_rfl) ?_
     refine treeP hK 11 21 (pA b1 5) (by kernel_rfl) (by kernel_rfl) (by kernel_rfl) (fun w => (by kernel_rfl)) #[true, true, true, true, true, true, true, true, true, true, true, true, false, false, false] (by kernel_rfl) fun a hK => ?_
     refine treeM [12] (by kernel_rfl) rfl ⟨?_, trivial⟩
     refine stepStore hK hM 1 [.int .i64 s.kind, Str s.nm, Str s.loc, .int .i64 s.ord, .slice A2_2 K2_2.length c2_2, .slice A2_5 K2_5.length c2_5, .slice s.A3 s.el.length s.c3] (by kernel_rfl) rfl rfl rfl rfl (by kernel_rfl) fun w hM => ?_
     replace hM := hM.to (.row b2 30 [.int .i64 0, Str [], Str [], .int .i64 0, .slice none 0 0, .slice none 0 0, .slice none 0 0] :: .row b1 30 [.int .i64 s.kind, Str s.nm, Str s.loc, .int .i64 s.ord, .slice A2_2 K2_2.length c2_2, .slice A2_5 K2_5.length c2_5, .slice s.A3 s.el.length s.c3] :: ((G2_2 ++ G2_5) ++ G2_8)) (by kernel_rfl)
     refine tree_next #[true, true, true, true, true, true, true, true, true, true, true, true, true, false, false] (by kernel_rfl) ?_
     refine treeP hK 13 22 (pA b1 6) (by kernel_rfl) (by kernel_rfl) (by kernel_rfl) (fun w => (by kernel_rfl)) #[true, true, true, true, true, true, true, true, true, true, true, true, true, true, false] (by kernel_rfl) fun a hK => ?_
     refine treeM [14] (by kernel_rfl) rfl ⟨?_, trivial⟩
     refine stepStore hK hM 1 [.int .i64 s.kind, Str s.nm, Str s.loc, .int .i64 s.ord, .slice A2_2 K2_2.length c2_2, .slice A2_5 K2_5.length c2_5, .slice A2_8 K2_8.length c2_8] (by kernel_rfl) rfl rfl rfl rfl (by kernel_rfl) fun w hM => ?_
     replace hM := hM.to (.row b2 30 [.int .i64 0, Str [], Str [], .int .i64 0, .slice none 0 0, .slice none 0 0, .slice none 0 0] :: .row b1 30 [.int .i64 s.kind, Str s.nm, Str s.loc, .int .i64 s.ord, .slice A2_2 K2_2.length c2_2, .slice A2_5 K2_5.length c2_5, .slice A2_8 K2_8.length c2_8] :: ((G2_2 ++ G2_5) ++ G2_8)) (by kernel_rfl)
     refine tree_next #[true, true, true, true, true, true, true, true, true, true, true, true, true, true, true] (by kernel_rfl) ?_
     exact treeE (by kernel_rfl) ⟨A2_2, A2_5, A2_8, G2_2, G2_5, G2_8, K2_2, K2_5, K2_8, c2_2, c2_5, c2_8, hK.sub ⟨rfl, rfl, rfl, trivial⟩, hM, hi2_2, hi2_5, hi2_8, hq2_2, hq2_5, hq2_8, hr2_2, hr2_5, hr2_8⟩
   ·refine stepLoad hK 15 (.slice s.A2 s.th.length s.c2) (by kernel_rfl) rfl rfl ((hM.row 1 rfl).cells 5 1) (by kernel_rfl) fun a hK => ?_
    refine tree_next #[true, true, false, true, true, false, true, false, false, false, false, false, false, false, false] (by kernel_rfl) ?_
    refine treeM [2, 7] (by kernel_rfl) rfl ⟨?_, ?_, trivial⟩
    ·refine stepCall hK hM 13 #[.slice s.A1 s.es.length s.c1, .func (.func 89) #[] #[]] (by kernel_rfl) (run_callE en_each_Expr rfl rfl (by kernel_rfl)) (ast_eachE s.es (fun x hx w1 h1 => ast_copyExpr x w1 h1 (exsSh_mem hssh.2.2.1 hx) (by have h8 := exsSz_mem hx; omega)) _ _ _ (hs.exprs.on hM.below) (by omega)) ?_
     rintro ⟨K2_2, A2_2, c2_2, G2_2⟩ a w ⟨hq2_2, hi2_2, hr2_2⟩ hK hM
     replace hM := (Mem.comm hM).to ((.row b2 30 [.int .i64 0, Str [], Str [], .int .i64 0, .slice none 0 0, .slice none 0 0, .slice none 0 0] :: .row b1 30 (cS s) :: G2_2)) (by kernel_rfl)
     refine tree_next #[true, true, true, true, true, false, true, false, false, false, false, false, false, false, false] (by kernel_rfl) ?_
     refine treeM [5, 7] (by kernel_rfl) rfl ⟨?_, ?_, trivial⟩
     ·refine stepCall hK hM 16 #[.slice s.A2 s.th.length s.c2] (by kernel_rfl) (run_callE en_ast_copyStmts rfl rfl (by kernel_rfl)) (h1 _ _ _ (hs.thn.on hM.below) (by omega)) ?_
      rintro ⟨K2_5, A2_5, c2_5, G2_5⟩ a w ⟨hq2_5, hi2_5, hr2_5⟩ hK hM
      replace hM := (Mem.comm hM).to ((.row b2 30 [.int .i64 0, Str [], Str [], .int .i64 0, .slice none 0 0, .slice none 0 0, .slice none 0 0] :: .row b1 30 (cS s) :: (G2_2 ++ G2_5))) (by kernel_rfl)
      refine tree_next #[true, true, true, true, true, true, true, false, false, false, false, false, false, false, false] (by kernel_rfl) ?_
      refine treeM [7] (by kernel_rfl) rfl ⟨?_, trivial⟩
      refine stepLoad hK 18 (.slice s.A3 s.el.length s.c3) (by kernel_rfl) rfl rfl ((hM.row 1 rfl).cells 6 1) (by kernel_rfl) fun a hK => ?_
      refine tree_next #[true, true, true, true, true, true, true, true, false, false, false, false, false, false, false] (by kernel_rfl) ?_
      refine treeP hK 9 20 (pA b1 4) (by kernel_rfl) (by kernel_rfl) (by kernel_rfl) (fun w => (by kernel_rfl)) #[true, true, true, true, true, true, true, true, false, true, false, false, false, false, false] (by kernel_rfl) fun a hK => ?_
      refine treeM [8] (by kernel_rfl) rfl ⟨?_, trivial⟩
      refine stepCall hK hM 19 #[.slice s.A3 s.el.length s.c3] (by kernel_rfl) (run_callE en_ast_copyStmts rfl rfl (by kernel_rfl)) (h2 _ _ _ (hs.els.on hM.below) (by omega)) ?_
      rintro ⟨K2_8, A2_8, c2_8, G2_8⟩ a w ⟨hq2_8, hi2_8, hr2_8⟩ hK hM
      replace hM := (Mem.comm hM).to ((.row b2 30 [.int .i64 0, Str [], Str [], .int .i64 0, .slice none 0 0, .slice none 0 0, .slice none 0 0] :: .row b1 30 (cS s) :: ((G2_2 ++ G2_5) ++ G2_8))) (by kernel_rfl)
      refine tree_next #[true, true, true, true, true, true, true, true, true, true, false, false, false, false, false] (by kernel_rfl) ?_
      refine treeM [10] (by kernel_rfl) rfl ⟨?_, trivial⟩
      refine stepStore hK hM 1 [.int .i64 s.kind, Str s.nm, Str s.loc, .int .i64 s.ord, .slice A2_2 K2_2.length c2_2, .slice s.A2 s.th.length s.c2, .slice s.A3 s.el.length s.c3] (by kernel_rfl) rfl rfl rfl rfl (by kernel_rfl) fun w hM => ?_
      replace hM := hM.to (.row b2 30 [.int .i64 0, Str [], Str [], .int .i64 0, .slice none 0 0, .slice none 0 0, .slice none 0 0] :: .row b1 30 [.int .i64 s.kind, Str s.nm, Str s.loc, .int .i64 s.ord, .slice A2_2 K2_2.length c2_2, .slice s.A2 s.th.length s.c2, .slice s.A3 s.el.length s.c3] :: ((G2_2 ++ G2_5) ++ G2_8)) (by kernel_rfl)
      refine tree_next #[true, true, true, true, true, true, true, true, true, true, true, false, false, false, false] (by kernel_rfl) ?_
      refine treeP hK 11 21 (pA b1 5) (by kernel_rfl) (by kernel_rfl) (by kernel_rfl) (fun w => (by kernel_rfl)) #[true, true, true, true, true, true, true, true, true, true, true, true, false, false, false] (by kernel_rfl) fun a hK => ?_
      refine treeM [12] (by kernel_rfl) rfl ⟨?_, trivial⟩
      refine stepStore hK hM 1 [.int .i64 s.kind, Str s.nm, Str s.loc, .int .i64 s.ord, .slice A2_2 K2_2.length c2_2, .slice A2_5 K2_5.length c2_5, .slice s.A3 s.el.length s.c3] (by kernel_rfl) rfl rfl rfl rfl (by kernel_rfl) fun w hM => ?_
      replace hM := hM.to (.row b2 30 [.int .i64 0, Str [], Str [], .int .i64 0, .slice none 0 0, .slice none 0 0, .slice none 0 0] :: .row b1 30 [.int .i64 s.kind, Str s.nm, Str s.loc, .int .i64 s.ord, .slice A2_2 K2_2.length c2_2, .slice A2_5 K2_5.length c2_5, .slice s.A3 s.el.length s.c3] :: ((G2_2 ++ G2_5) ++ G2_8)) (by kernel_rfl)
      refine tree_next #[true, true, true, true, true, true, true, true, true, true, true, true, true, false, false] (by kernel_rfl) ?_
      refine treeP hK 13 22 (pA b1 6) (by kernel_rfl) (by kernel_rfl) (by kernel_rfl) (fun w => (by kernel_rfl)) #[true, true, true, true, true, true, true, true, true, true, true, true, true, true, false] (by kernel_rfl) fun a hK => ?_
      refine treeM [14] (by kernel_rfl) rfl ⟨?_, trivial⟩
      refine stepStore hK hM 1 [.int .i64 s.kind, Str s.nm, Str s.loc, .int .i64 s.ord, .slice A2_2 K2_2.length c2_2, .slice A2_5 K2_5.length c2_5, .slice A2_8 K2_8.length c2_8] (by kernel_rfl) rfl rfl rfl rfl (by kernel_rfl) fun w hM => ?_
      replace hM := hM.to (.row b2 30 [.int .i64 0, Str [], Str [], .int .i64 0, .slice none 0 0, .slice none 0 0, .slice none 0 0] :: .row b1 30 [.int .i64 s.kind, Str s.nm, Str s.loc, .int .i64 s.ord, .slice A2_2 K2_2.length c2_2, .slice A2_5 K2_5.length c2_5, .slice A2_8 K2_8.length c2_8] :: ((G2_2 ++ G2_5) ++ G2_8)) (by kernel_rfl)
      refine tree_next #[true, true, true, true, true, true, true, true, true, true, true, true, true, true, true] (by kernel_rfl) ?_
      exact treeE (by kernel_rfl) ⟨A2_2, A2_5, A2_8, G2_2, G2_5, G2_8, K2_2, K2_5, K2_8, c2_2, c2_5, c2_8, hK.sub ⟨rfl, rfl, rfl, trivial⟩, hM, hi2_2, hi2_5, hi2_8, hq2_2, hq2_5, hq2_8, hr2_2, hr2_5, hr2_8⟩
     ·refine stepLoad hK 18 (.slice s.A3 s.el.length s.c3) (by kernel_rfl) rfl rfl ((hM.row 1 rfl).cells 6 1) (by kernel_rfl) fun a hK => ?_
      refine tree_next #[true, true, true, true, true, false, true, true, false, false, false, false, false, false, false] (by kernel_rfl) ?_
      refine treeP hK 9 20 (pA b1 4) (by kernel_rfl) (by kernel_rfl) (by kernel_rfl) (fun w => (by kernel_rfl)) #[true, true, true, true, true, false, true, true, false, true, false, false, false, false, false] (by kernel_rfl) fun a hK => ?_
      refine treeM [5] (by kernel_rfl) rfl ⟨?_, trivial⟩
      refine stepCall hK hM 16 #[.slice s.A2 s.th.length s.c2] (by kernel_rfl) (run_callE en_ast_copyStmts rfl rfl (by kernel_rfl)) (h1 _ _ _ (hs.thn.on hM.below) (by omega)) ?_
      rintro ⟨K2_5, A2_5, c2_5, G2_5⟩ a w ⟨hq2_5, hi2_5, hr2_5⟩ hK hM
      replace hM := (Mem.comm hM).to ((.row b2 30 [.int .i64 0, Str [], Str [], .int .i64 0, .slice none 0 0, .slice none 0 0, .slice none 0 0] :: .row b1 30 (cS s) :: (G2_2 ++ G2_5))) (by kernel_rfl)
      refine tree_next #[true, true, true, true, true, true, true, true, false, true, false, false, false, false, false] (by kernel_rfl) ?_
      refine treeM [8] (by kernel_rfl) rfl ⟨?_, trivial⟩
      refine stepCall hK hM 19 #[.slice s.A3 s.el.length s.c3] (by kernel_rfl) (run_callE en_ast_copyStmts rfl rfl (by kernel_rfl)) (h2 _ _ _ (hs.els.on hM.below) (by omega)) ?_
      rintro ⟨K2_8, A2_8, c2_8, G2_8⟩ a w ⟨hq2_8, hi2_8, hr2_8⟩ hK hM
      replace hM := (Mem.comm hM).to ((.row b2 30 [.int .i64 0, Str [], Str [], .int .i64 0, .slice none 0 0, .slice none 0 0, .slice none 0 0] :: .row b1 30 (cS s) :: ((G2_2 ++ G2_5) ++ G2_8))) (by kernel_rfl)
      refine tree_next #[true, true, true, true, true, true, true, true, true, true, false, false, false, false, false] (by kernel_rfl) ?_
      refine treeM [10] (by kernel_rfl) rfl ⟨?_, trivial⟩
      refine stepStore hK hM 1 [.int .i64 s.kind, Str s.nm, Str s.loc, .int .i64 s.ord, .slice A2_2 K2_2.length c2_2, .slice s.A2 s.th.length s.c2, .slice s.A3 s.el.length s.c3] (by kernel_rfl) rfl rfl rfl rfl (by kernel_rfl) fun w hM => ?_
      replace hM := hM.to (.row b2 30 [.int .i64 0, Str [], Str [], .int .i64 0, .slice none 0 0, .slice none 0 0, .slice none 0 0] :: .row b1 30 [.int .i64 s.kind, Str s.nm, Str s.loc, .int .i64 s.ord, .slice A2_2 K2_2.length c2_2, .slice s.A2 s.th.length s.c2, .slice s.A3 s.el.length s.c3] :: ((G2_2 ++ G2_5) ++ G2_8)) (by kernel_rfl)
      refine tree_next #[true, true, true, true, true, true, true, true, true, true, true, false, false, false, false] (by kernel_rfl) ?_
      refine treeP hK 11 21 (pA b1 5) (by kernel_rfl) (by kernel_rfl) (by kernel_rfl) (fun w => (by kernel_rfl)) #[true, true, true, true, true, true, true, true, true, true, true, true, false, false, false] (by kernel_rfl) fun a hK => ?_
      refine treeM [12] (by kernel_rfl) rfl ⟨?_, trivial⟩
      refine stepStore hK hM 1 [.int .i64 s.kind, Str s.nm, Str s.loc, .int .i64 s.ord, .slice A2_2 K2_2.length c2_2, .slice A2_5 K2_5.length c2_5, .slice s.A3 s.el.length s.c3] (by kernel_rfl) rfl rfl rfl rfl (by kernel_rfl) fun w hM => ?_
      replace hM := hM.to (.row b2 30 [.int .i64 0, Str [], Str [], .int .i64 0, .slice none 0 0, .slice none 0 0, .slice none 0 0] :: .row b1 30 [.int .i64 s.kind, Str s.nm, Str s.loc, .int .i64 s.ord, .slice A2_2 K2_2.length c2_2, .slice A2_5 K2_5.length c2_5, .slice s.A3 s.el.length s.c3] :: ((G2_2 ++ G2_5) ++ G2_8)) (by kernel_rfl)
      refine tree_next #[true, true, true, true, true, true, true, true, true, true, true, true, true, false, false] (by kernel_rfl) ?_
      refine treeP hK 13 22 (pA b1 6) (by kernel_rfl) (by kernel_rfl) (by kernel_rfl) (fun w => (by kernel_rfl)) #[true, true, true, true, true, true, true, true, true, true, true, true, true, true, false] (by kernel_rfl) fun a hK => ?_
      refine treeM [14] (by kernel_rfl) rfl ⟨?_, trivial⟩
      refine stepStore hK hM 1 [.int .i64 s.kind, Str s.nm, Str s.loc, .int .i64 s.ord, .slice A2_2 K2_2.length c2_2, .slice A2_5 K2_5.length c2_5, .slice A2_8 K2_8.length c2_8] (by kernel_rfl) rfl rfl rfl rfl (by kernel_rfl) fun w hM => ?_
      replace hM := hM.to (.row b2 30 [.int .i64 0, Str [], Str [], .int .i64 0, .slice none 0 0, .slice none 0 0, .slice none 0 0] :: .row b1 30 [.int .i64 s.kind, Str s.nm, Str s.loc, .int .i64 s.ord, .slice A2_2 K2_2.length c2_2, .slice A2_5 K2_5.length c2_5, .slice A2_8 K2_8.length c2_8] :: ((G2_2 ++ G2_5) ++ G2_8)) (by kernel_rfl)
      refine tree_next #[true, true, true, true, true, true, true, true, true, true, true, true, true, true, true] (by kernel_rfl) ?_
      exact treeE (by kernel_rfl) ⟨A2_2, A2_5, A2_8, G2_2, G2_5, G2_8, K2_2, K2_5, K2_8, c2_2, c2_5, c2_8, hK.sub ⟨rfl, rfl, rfl, trivial⟩, hM, hi2_2, hi2_5, hi2_8, hq2_2, hq2_5, hq2_8, hr2_2, hr2_5, hr2_8⟩
    ·refine stepLoad hK 18 (.slice s.A3 s.el.length s.c3) (by kernel_rfl) rfl rfl ((hM.row 1 rfl).cells 6 1) (by kernel_rfl) fun a hK => ?_
     refine tree_next #[true, true, false, true, true, false, true, true, false, false, false, false, false, false, false] (by kernel_rfl) ?_
     refine treeM [2] (by kernel_rfl) rfl ⟨?_, trivial⟩
     refine stepCall hK hM 13 #[.slice s.A1 s.es.length s.c1, .func (.func 89) #[] #[]] (by kernel_rfl) (run_callE en_each_Expr rfl rfl (by kernel_rfl)) (ast_eachE s.es (fun x hx w1 h1 => ast_copyExpr x w1 h1 (exsSh_mem hssh.2.2.1 hx) (by have h8 := exsSz_mem hx; omega)) _ _ _ (hs.exprs.on hM.below) (by omega)) ?_
     rintro ⟨K2_2, A2_2, c2_2, G2_2⟩ a w ⟨hq2_2, hi2_2, hr2_2⟩ hK hM
     replace hM := (Mem.comm hM).to ((.row b2 30 [.int .i64 0, Str [], Str [], .int .i64 0, .slice none 0 0, .slice none 0 0, .slice none 0 0] :: .row b1 30 (cS s) :: G2_2)) (by kernel_rfl)
     refine tree_next #[true, true, true, true, true, false, true, true, false, false, false, false, false, false, false] (by kernel_rfl) ?_
     refine treeP hK 9 20 (pA b1 4) (by kernel_rfl) (by kernel_rfl) (by kernel_rfl) (fun w => (by kernel_rfl)) #[true, true, true, true, true, false, true, true, false, true, false, false, false, false, false] (by kernel_rfl) fun a hK => ?_
     refine treeM [5] (by kernel_rfl) rfl ⟨?_, trivial⟩
     refine stepCall hK hM 16 #[.slice s.A2 s.th.length s.c2] (by kernel_rfl) (run_callE en_ast_copyStmts rfl rfl (by kernel_rfl)) (h1 _ _ _ (hs.thn.on hM.below) (by omega)) ?_
     rintro ⟨K2_5, A2_5, c2_5, G2_5⟩ a w ⟨hq2_5, hi2_5, hr2_5⟩ hK hM
     replace hM := (Mem.comm hM).to ((.row b2 30 [.int .i64 0, Str [], Str [], .int .i64 0, .slice none 0 0, .slice none 0 0, .slice none 0 0] :: .row b1 30 (cS s) :: (G2_2 ++ G2_5))) (by kernel_rfl)
     refine tree_next #[true, true, true, true, true, true, true, true, false, true, false, false, false, false, false] (by kernel_rfl) ?_
     refine treeM [8] (by kernel_rfl) rfl ⟨?_, trivial⟩
     refine stepCall hK hM 19 #[.slice s.A3 s.el.length s.c3] (by kernel_rfl) (run_callE en_ast_copyStmts rfl rfl (by kernel_rfl)) (h2 _ _ _ (hs.els.on hM.below) (by omega)) ?_
     rintro ⟨K2_8, A2_8, c2_8, G2_8⟩ a w ⟨hq2_8, hi2_8, hr2_8⟩ hK hM
     replace hM := (Mem.comm hM).to ((.row b2 30 [.int .i64 0, Str [], Str [], .int .i64 0, .slice none 0 0, .slice none 0 0, .slice none 0 0] :: .row b1 30 (cS s) :: ((G2_2 ++ G2_5) ++ G2_8))) (by kernel_rfl)
     refine tree_next #[true, true, true, true, true, true, true, true, true, true, false, false, false, false, false] (by kernel_rfl) ?_
     refine treeM [10] (by kernel_rfl) rfl ⟨?_, trivial⟩
     refine stepStore hK hM 1 [.int .i64 s.kind, Str s.nm, Str s.loc, .int .i64 s.ord, .slice A2_2 K2_2.length c2_2, .slice s.A2 s.th.length s.c2, .slice s.A3 s.el.length s.c3] (by kernel_rfl) rfl rfl rfl rfl (by kernel_rfl) fun w hM => ?_
     replace hM := hM.to (.row b2 30 [.int .i64 0, Str [], Str [], .int .i64 0, .slice none 0 0, .slice none 0 0, .slice none 0 0] :: .row b1 30 [.int .i64 s.kind, Str s.nm, Str s.loc, .int .i64 s.ord, .slice A2_2 K2_2.length c2_2, .slice s.A2 s.th.length s.c2, .slice s.A3 s.el.length s.c3] :: ((G2_2 ++ G2_5) ++ G2_8)) (by kernel_rfl)
     refine tree_next #[true, true, true, true, true, true, true, true, true, true, true, false, false, false, false] (by kernel_rfl) ?_
     refine treeP hK 11 21 (pA b1 5) (by kernel_rfl) (by kernel_rfl) (by kernel_rfl) (fun w => (by kernel_rfl)) #[true, true, true, true, true, true, true, true, true, true, true, true, false, false, false] (by kernel_rfl) fun a hK => ?_
     refine treeM [12] (by kernel_rfl) rfl ⟨?_, trivial⟩
     refine stepStore hK hM 1 [.int .i64 s.kind, Str s.nm, Str s.loc, .int .i64 s.ord, .slice A2_2 K2_2.length c2_2, .slice A2_5 K2_5.length c2_5, .slice s.A3 s.el.length s.c3] (by kernel_rfl) rfl rfl rfl rfl (by kernel_rfl) fun w hM => ?_
     replace hM := hM.to (.row b2 30 [.int .i64 0, Str [], Str [], .int .i64 0, .slice none 0 0, .slice none 0 0, .slice none 0 0] :: .row b1 30 [.int .i64 s.kind, Str s.nm, Str s.loc, .int .i64 s.ord, .slice A2_2 K2_2.length c2_2, .slice A2_5 K2_5.length c2_5, .slice s.A3 s.el.length s.c3] :: ((G2_2 ++ G2_5) ++ G2_8)) (by kernel_rfl)
     refine tree_next #[true, true, true, true, true, true, true, true, true, true, true, true, true, false, false] (by kernel_rfl) ?_
     refine treeP hK 13 22 (pA b1 6) (by kernel_rfl) (by kernel_rfl) (by kernel_rfl) (fun w => (by kernel_rfl)) #[true, true, true, true, true, true, true, true, true, true, true, true, true, true, false] (by kernel_rfl) fun a hK => ?_
     refine treeM [14] (by kernel_rfl) rfl ⟨?_, trivial⟩
     refine stepStore hK hM 1 [.int .i64 s.kind, Str s.nm, Str s.loc, .int .i64 s.ord, .slice A2_2 K2_2.length c2_2, .slice A2_5 K2_5.length c2_5, .slice A2_8 K2_8.length c2_8] (by kernel_rfl) rfl rfl rfl rfl (by kernel_rfl) fun w hM => ?_
     replace hM := hM.to (.row b2 30 [.int .i64 0, Str [], Str [], .int .i64 0, .slice none 0 0, .slice none 0 0, .slice none 0 0] :: .row b1 30 [.int .i64 s.kind, Str s.nm, Str s.loc, .int .i64 s.ord, .slice A2_2 K2_2.length c2_2, .slice A2_5 K2_5.length c2_5, .slice A2_8 K2_8.length c2_8] :: ((G2_2 ++ G2_5) ++ G2_8)) (by kernel_rfl)
     refine tree_next #[true, true, true, true, true, true, true, true, true, true, true, true, true, true, true] (by kernel_rfl) ?_
     exact treeE (by kernel_rfl) ⟨A2_2, A2_5, A2_8, G2_2, G2_5, G2_8, K2_2, K2_5, K2_8, c2_2, c2_5, c2_8, hK.sub ⟨rfl, rfl, rfl, trivial⟩, hM, hi2_2, hi2_5, hi2_8, hq2_2, hq2_5, hq2_8, hr2_2, hr2_5, hr2_8⟩
   ·refine stepLoad hK 18 (.slice s.A3 s.el.length s.c3) (by kernel_rfl) rfl rfl ((hM.row 1 rfl).cells 6 1) (by kernel_rfl) fun a hK => ?_
    refine tree_next #[true, true, false, true, false, false, true, true, false, false, false, false, false, false, false] (by kernel_rfl) ?_
    refine treeM [2, 4] (by kernel_rfl) rfl ⟨?_, ?_, trivial⟩
    ·refine stepCall hK hM 13 #[.slice s.A1 s.es.length s.c1, .func (.func 89) #[] #[]] (by kernel_rfl) (run_callE en_each_Expr rfl rfl (by kernel_rfl)) (ast_eachE s.es (fun x hx w1 h1 => ast_copyExpr x w1 h1 (exsSh_mem hssh.2.2.1 hx) (by have h8 := exsSz_mem hx; omega)) _ _ _ (hs.exprs.on hM.below) (by omega)) ?_
     rintro ⟨K2_2, A2_2, c2_2, G2_2⟩ a w ⟨hq2_2, hi2_2, hr2_2⟩ hK hM
     replace hM := (Mem.comm hM).to ((.row b2 30 [.int .i64 0, Str [], Str [], .int .i64 0, .slice none 0 0, .slice none 0 0, .slice none 0 0] :: .row b1 30 (cS s) :: G2_2)) (by kernel_rfl)
     refine tree_next #[true, true, true, true, false, false, true, true, false, false, false, false, false, false, false] (by kernel_rfl) ?_
     refine treeM [4] (by kernel_rfl) rfl ⟨?_, trivial⟩
     refine stepLoad hK 15 (.slice s.A2 s.th.length s.c2) (by kernel_rfl) rfl rfl ((hM.row 1 rfl).cells 5 1) (by kernel_rfl) fun a hK => ?_
     refine tree_next #[true, true, true, true, true, false, true, true, false, false, false, false, false, false, false] (by kernel_rfl) ?_
     refine treeP hK 9 20 (pA b1 4) (by kernel_rfl) (by kernel_rfl) (by kernel_rfl) (fun w => (by kernel_rfl)) #[true, true, true, true, true, false, true, true, false, true, false, false, false, false, false] (by kernel_rfl) fun a hK => ?_
     refine treeM [5] (by kernel_rfl) rfl ⟨?_, trivial⟩
     refine stepCall hK hM 16 #[.slice s.A2 s.th.length s.c2] (by kernel_rfl) (run_callE en_ast_copyStmts rfl rfl (by kernel_rfl)) (h1 _ _ _ (hs.thn.on hM.below) (by omega)) ?_
     rintro ⟨K2_5, A2_5, c2_5, G2_5⟩ a w ⟨hq2_5, hi2_5, hr2_5⟩ hK hM
     replace hM := (Mem.comm hM).to ((.row b2 30 [.int .i64 0, Str [], Str [], .int .i64 0, .slice none 0 0, .slice none 0 0, .slice none 0 0] :: .row b1 30 (cS s) :: (G2_2 ++ G2_5))) (by kernel_rfl)
     refine tree_next #[true, true, true, true, true, true, true, true, false, true, false, false, false, false, false] (by kernel_rfl) ?_
     refine treeM [8] (by kernel_rfl) rfl ⟨?_, trivial⟩
     refine stepCall hK hM 19 #[.slice s.A3 s.el.length s.c3] (by kernel_rfl) (run_callE en_ast_copyStmts rfl rfl (by kernel_rfl)) (h2 _ _ _ (hs.els.on hM.below) (by omega)) ?_
     rintro ⟨K2_8, A2_8, c2_8, G2_8⟩ a w ⟨hq2_8, hi2_8, hr2_8⟩ hK hM
     replace hM := (Mem.comm hM).to ((.row b2 30 [.int .i64 0, Str [], Str [], .int .i64 0, .slice none 0 0, .slice none 0 0, .slice none 0 0] :: .row b1 30 (cS s) :: ((G2_2 ++ G2_5) ++ G2_8))) (by kernel_rfl)
     refine tree_next #[true, true, true, true, true, true, true, true, true, true, false, false, false, false, false] (by kernel_rfl) ?_
     refine treeM [10] (by kernel_rfl) rfl ⟨?_, trivial⟩
     refine stepStore hK hM 1 [.int .i64 s.kind, Str s.nm, Str s.loc, .int .i64 s.ord, .slice A2_2 K2_2.length c2_2, .slice s.A2 s.th.length s.c2, .slice s.A3 s.el.length s.c3] (by kernel_rfl) rfl rfl rfl rfl (by kernel_rfl) fun w hM => ?_
     replace hM := hM.to (.row b2 30 [.int .i64 0, Str [], Str [], .int .i64 0, .slice none 0 0, .slice none 0 0, .slice none 0 0] :: .row b1 30 [.int .i64 s.kind, Str s.nm, Str s.loc, .int .i64 s.ord, .slice A2_2 K2_2.length c2_2, .slice s.A2 s.th.length s.c2, .slice s.A3 s.el.length s.c3] :: ((G2_2 ++ G2_5) ++ G2_8)) (by kernel_rfl)
     refine tree_next #[true, true, true, true, true, true, true, true, true, true, true, false, false, false, false] (by kernel_rfl) ?_
     refine treeP hK 11 21 (pA b1 5) (by kernel_rfl) (by kernel_rfl) (by kernel_rfl) (fun w => (by kernel_rfl)) #[true, true, true, true, true, true, true, true, true, true, true, true, false, false, false] (by kernel_rfl) fun a hK => ?_
     refine treeM [12] (by kernel_rfl) rfl ⟨?_, trivial⟩
     refine stepStore hK hM 1 [.int .i64 s.kind, Str s.nm, Str s.loc, .int .i64 s.ord, .slice A2_2 K2_2.length c2_2, .slice A2_5 K2_5.length c2_5, .slice s.A3 s.el.length s.c3] (by kernel_rfl) rfl rfl rfl rfl (by kernel_rfl) fun w hM => ?_
     replace hM := hM.to (.row b2 30 [.int .i64 0, Str [], Str [], .int .i64 0, .slice none 0 0, .slice none 0 0, .slice none 0 0] :: .row b1 30 [.int .i64 s.kind, Str s.nm, Str s.loc, .int .i64 s.ord, .slice A2_2 K2_2.length c2_2, .slice A2_5 K2_5.length c2_5, .slice s.A3 s.el.length s.c3] :: ((G2_2 ++ G2_5) ++ G2_8)) (by kernel_rfl)
     refine tree_next #[true, true, true, true, true, true, true, true, true, true, true, true, true, false, false] (by kernel_rfl) ?_
     refine treeP hK 13 22 (pA b1 6) (by kernel_rfl) (by kernel_rfl) (by kernel_rfl) (fun w => (by kernel_rfl)) #[true, true, true, true, true, true, true, true, true, true, true, true, true, true, false] (by kernel_rfl) fun a hK => ?_
     refine treeM [14] (by kernel_rfl) rfl ⟨?_, trivial⟩
     refine stepStore hK hM 1 [.int .i64 s.kind, Str s.nm, Str s.loc, .int .i64 s.ord, .slice A2_2 K2_2.length c2_2, .slice A2_5 K2_5.length c2_5, .slice A2_8 K2_8.length c2_8] (by kernel_rfl) rfl rfl rfl rfl (by kernel_rfl) fun w hM => ?_
     replace hM := hM.to (.row b2 30 [.int .i64 0, Str [], Str [], .int .i64 0, .slice none 0 0, .slice none 0 0, .slice none 0 0] :: .row b1 30 [.int .i64 s.kind, Str s.nm, Str s.loc, .int .i64 s.ord, .slice A2_2 K2_2.length c2_2, .slice A2_5 K2_5.length c2_5, .slice A2_8 K2_8.length c2_8] :: ((G2_2 ++ G2_5) ++ G2_8)) (by kernel_rfl)
     refine tree_next #[true, true, true, true, true, true, true, true, true, true, true, true, true, true, true] (by kernel_rfl) ?_
     exact treeE (by kernel_rfl) ⟨A2_2, A2_5, A2_8, G2_2, G2_5, G2_8, K2_2, K2_5, K2_8, c2_2, c2_5, c2_8, hK.sub ⟨rfl, rfl, rfl, trivial⟩, hM, hi2_2, hi2_5, hi2_8, hq2_2, hq2_5, hq2_8, hr2_2, hr2_5, hr2_8⟩
    ·refine stepLoad hK 15 (.slice s.A2 s.th.length s.c2) (by kernel_rfl) rfl rfl ((hM.row 1 rfl).cells 5 1) (by kernel_rfl) fun a hK => ?_
     refine tree_next #[true, true, false, true, true, false, true, true, false, false, false, false, false, false, false] (by kernel_rfl) ?_
     refine treeM [2] (by kernel_rfl) rfl ⟨?_, trivial⟩
     refine stepCall hK hM 13 #[.slice s.A1 s.es.length s.c1, .func (.func 89) #[] #[]] (by kernel_rfl) (run_callE en_each_Expr rfl rfl (by kernel_rfl)) (ast_eachE s.es (fun x hx w1 h1 => ast_copyExpr x w1 h1 (exsSh_mem hssh.2.2.1 hx) (by have h8 := exsSz_mem hx; omega)) _ _ _ (hs.exprs.on hM.below) (by omega)) ?_
     rintro ⟨K2_2, A2_2, c2_2, G2_2⟩ a w ⟨hq2_2, hi2_2, hr2_2⟩ hK hM
     replace hM := (Mem.comm hM).to ((.row b2 30 [.int .i64 0, Str [], Str [], .int .i64 0, .slice none 0 0, .slice none 0 0, .slice none 0 0] :: .row b1 30 (cS s) :: G2_2)) (by kernel_rfl)
     refine tree_next #[true, true, true, true, true, false, true, true, false, false, false, false, false, false, false] (by kernel_rfl) ?_
     refine treeP hK 9 20 (pA b1 4) (by kernel_rfl) (by kernel_rfl) (by kernel_rfl) (fun w => (by kernel_rfl)) #[true, true, true, true, true, false, true, true, false, true, false, false, false, false, false] (by kernel_rfl) fun a hK => ?_
     refine treeM [5] (by kernel_rfl) rfl ⟨?_, trivial⟩
     refine stepCall hK hM 16 #[.slice s.A2 s.th.length s.c2] (by kernel_rfl) (run_callE en_ast_copyStmts rfl rfl (by kernel_rfl)) (h1 _ _ _ (hs.thn.on hM.below) (by omega)) ?_
     rintro ⟨K2_5, A2_5, c2_5, G2_5⟩ a w ⟨hq2_5, hi2_5, hr2_5⟩ hK hM
     replace hM := (Mem.comm hM).to ((.row b2 30 [.int .i64 0, Str [], Str [], .int .i64 0, .slice none 0 0, .slice none 0 0, .slice none 0 0] :: .row b1 30 (cS s) :: (G2_2 ++ G2_5))) (by kernel_rfl)
     refine tree_next #[true, true, true, true, true, true, true, true, false, true, false, false, false, false, false] (by kernel_rfl) ?_
     refine treeM [8] (by kernel_rfl) rfl ⟨?_, trivial⟩
     refine stepCall hK hM 19 #[.slice s.A3 s.el.length s.c3] (by kernel_rfl) (run_callE en_ast_copyStmts rfl rfl (by kernel_rfl)) (h2 _ _ _ (hs.els.on hM.below) (by omega)) ?_
     rintro ⟨K2_8, A2_8, c2_8, G2_8⟩ a w ⟨hq2_8, hi2_8, hr2_8⟩ hK hM
     replace hM := (Mem.comm hM).to ((.row b2 30 [.int .i64 0, Str [], Str [], .int .i64 0, .slice none 0 0, .slice none 0 0, .slice none 0 0] :: .row b1 30 (cS s) :: ((G2_2 ++ G2_5) ++ G2_8))) (by kernel_rfl)
     refine tree_next #[true, true, true, true, true, true, true, true, true, true, false, false, false, false, false] (by kernel_rfl) ?_
     refine treeM [10] (by kernel_rfl) rfl ⟨?_, trivial⟩
     refine stepStore hK hM 1 [.int .i64 s.kind, Str s.nm, Str s.loc, .int .i64 s.ord, .slice A2_2 K2_2.length c2_2, .slice s.A2 s.th.length s.c2, .slice s.A3 s.el.length s.c3] (by kernel_rfl) rfl rfl rfl rfl (by kernel_rfl) fun w hM => ?_
     replace hM := hM.to (.row b2 30 [.int .i64 0, Str [], Str [], .int .i64 0, .slice none 0 0, .slice none 0 0, .slice none 0 0] :: .row b1 30 [.int .i64 s.kind, Str s.nm, Str s.loc, .int .i64 s.ord, .slice A2_2 K2_2.length c2_2, .slice s.A2 s.th.length s.c2, .slice s.A3 s.el.length s.c3] :: ((G2_2 ++ G2_5) ++ G2_8)) (by kernel_rfl)
     refine tree_next #[true, true, true, true, true, true, true, true, true, true, true, false, false, false, false] (by kernel_rfl) ?_
     refine treeP hK 11 21 (pA b1 5) (by kernel_rfl) (by kernel_rfl) (by kernel_rfl) (fun w => (by kernel_rfl)) #[true, true, true, true, true, true, true, true, true, true, true, true, false, false, false] (by kernel_rfl) fun a hK => ?_
     refine treeM [12] (by kernel_rfl) rfl ⟨?_, trivial⟩
     refine stepStore hK hM 1 [.int .i64 s.kind, Str s.nm, Str s.loc, .int .i64 s.ord, .slice A2_2 K2_2.length c2_2, .slice A2_5 K2_5.length c2_5, .slice s.A3 s.el.length s.c3] (by kernel_rfl) rfl rfl rfl rfl (by kernel_rfl) fun w hM => ?_
     replace hM := hM.to (.row b2 30 [.int .i64 0, Str [], Str [], .int .i64 0, .slice none 0 0, .slice none 0 0, .slice none 0 0] :: .row b1 30 [.int .i64 s.kind, Str s.nm, Str s.loc, .int .i64 s.ord, .slice A2_2 K2_2.length c2_2, .slice A2_5 K2_5.length c2_5, .slice s.A3 s.el.length s.c3] :: ((G2_2 ++ G2_5) ++ G2_8)) (by kernel_rfl)
     refine tree_next #[true, true, true, true, true, true, true, true, true, true, true, true, true, false, false] (by kernel_rfl) ?_
     refine treeP hK 13 22 (pA b1 6) (by kernel_rfl) (by kernel_rfl) (by kernel_rfl) (fun w => (by kernel_rfl)) #[true, true, true, true, true, true, true, true, true, true, true, true, true, true, false] (by kernel_rfl) fun a hK => ?_
     refine treeM [14] (by kernel_rfl) rfl ⟨?_, trivial⟩
     refine stepStore hK hM 1 [.int .i64 s.kind, Str s.nm, Str s.loc, .int .i64 s.ord, .slice A2_2 K2_2.length c2_2, .slice A2_5 K2_5.length c2_5, .slice A2_8 K2_8.length c2_8] (by kernel_rfl) rfl rfl rfl rfl (by kernel_rfl) fun w hM => ?_
     replace hM := hM.to (.row b2 30 [.int .i64 0, Str [], Str [], .int .i64 0, .slice none 0 0, .slice none 0 0, .slice none 0 0] :: .row b1 30 [.int .i64 s.kind, Str s.nm, Str s.loc, .int .i64 s.ord, .slice A2_2 K2_2.length c2_2, .slice A2_5 K2_5.length c2_5, .slice A2_8 K2_8.length c2_8] :: ((G2_2 ++ G2_5) ++ G2_8)) (by kernel_rfl)
     refine tree_next #[true, true, true, true, true, true, true, true, true, true, true, true, true, true, true] (by kernel_rfl) ?_
     exact treeE (by kernel_rfl) ⟨A2_2, A2_5, A2_8, G2_2, G2_5, G2_8, K2_2, K2_5, K2_8, c2_2, c2_5, c2_8, hK.sub ⟨rfl, rfl, rfl, trivial⟩, hM, hi2_2, hi2_5, hi2_8, hq2_2, hq2_5, hq2_8, hr2_2, hr2_5, hr2_8⟩
  ·refine stepLoad hK 15 (.slice s.A2 s.th.length s.c2) (by kernel_rfl) rfl rfl ((hM.row 1 rfl).cells 5 1) (by kernel_rfl) fun a hK => ?_
   refine tree_next #[true, false, false, true, true, false, true, false, false, false, false, false, false, false, false] (by kernel_rfl) ?_
   refine treeM [1, 7] (by kernel_rfl) rfl ⟨?_, ?_, trivial⟩
   ·refine stepLoad hK 12 (.slice s.A1 s.es.length s.c1) (by kernel_rfl) rfl rfl ((hM.row 1 rfl).cells 4 1) (by kernel_rfl) fun a hK => ?_
    refine tree_next #[true, true, false, true, true, false, true, false, false, false, false, false, false, false, false] (by kernel_rfl) ?_
    refine treeM [2, 7] (by kernel_rfl) rfl ⟨?_, ?_, trivial⟩
    ·refine stepCall hK hM 13 #[.slice s.A1 s.es.length s.c1, .func (.func 89) #[] #[]] (by kernel_rfl) (run_callE en_each_Expr rfl rfl (by kernel_rfl)) (ast_eachE s.es (fun x hx w1 h1 => ast_copyExpr x w1 h1 (exsSh_mem hssh.2.2.1 hx) (by have h8 := exsSz_mem hx; omega)) _ _ _ (hs.exprs.on hM.below) (by omega)) ?_
     rintro ⟨K2_2, A2_2, c2_2, G2_2⟩ a w ⟨hq2_2, hi2_2, hr2_2⟩ hK hM
     replace hM := (Mem.comm hM).to ((.row b2 30 [.int .i64 0, Str [], Str [], .int .i64 0, .slice none 0 0, .slice none 0 0, .slice none 0 0] :: .row b1 30 (cS s) :: G2_2)) (by kernel_rfl)
     refine tree_next #[true, true, true, true, true, false, true, false, false, false, false, false, false, false, false] (by kernel_rfl) ?_
     refine treeM [5, 7] (by kernel_rfl) rfl ⟨?_, ?_, trivial⟩
     ·refine stepCall hK hM 16 #[.slice s.A2 s.th.length s.c2] (by kernel_rfl) (run_callE en_ast_copyStmts rfl rfl (by kernel_rfl)) (h1 _ _ _ (hs.thn.on hM.below) (by omega)) ?_
      rintro ⟨K2_5, A2_5, c2_5, G2_5⟩ a w ⟨hq2_5, hi2_5, hr2_5⟩ hK hM
      replace hM := (Mem.comm hM).to ((.row b2 30 [.int .i64 0, Str [], Str [], .int .i64 0, .slice none 0 0, .slice none 0 0, .slice none 0 0] :: .row b1 30 (cS s) :: (G2_2 ++ G2_5))) (by kernel_rfl)
      refine tree_next #[true, true, true, true, true, true, true, false, false, false, false, false, false, false, false] (by kernel_rfl) ?_
      refine treeM [7] (by kernel_rfl) rfl ⟨?_, trivial⟩
      refine stepLoad hK 18 (.slice s.A3 s.el.length s.c3) (by kernel_rfl) rfl rfl ((hM.row 1 rfl).cells 6 1) (by kernel_rfl) fun a hK => ?_
      refine tree_next #[true, true, true, true, true, true, true, true, false, false, false, false, false, false, false] (by kernel_rfl) ?_
      refine treeP hK 9 20 (pA b1 4) (by kernel_rfl) (by kernel_rfl) (by kernel_rfl) (fun w => (by kernel_rfl)) #[true, true, true, true, true, true, true, true, false, true, false, false, false, false, false] (by kernel_rfl) fun a hK => ?_
      refine treeM [8] (by kernel_rfl) rfl ⟨?_, trivial⟩
      refine stepCall hK hM 19 #[.slice s.A3 s.el.length s.c3] (by kernel_rfl) (run_callE en_ast_copyStmts rfl rfl (by kernel_rfl)) (h2 _ _ _ (hs.els.on hM.below) (by omega)) ?_
      rintro ⟨K2_8, A2_8, c2_8, G2_8⟩ a w ⟨hq2_8, hi2_8, hr2_8⟩ hK hM
      replace hM := (Mem.comm hM).to ((.row b2 30 [.int .i64 0, Str [], Str [], .int .i64 0, .slice none 0 0, .slice none 0 0, .slice none 0 0] :: .row b1 30 (cS s) :: ((G2_2 ++ G2_5) ++ G2_8))) (by kernel_rfl)
      refine tree_next #[true, true, true, true, true, true, true, true, true, true, false, false, false, false, false] (by kernel_rfl) ?_
      refine treeM [10] (by kernel_rfl) rfl ⟨?_, trivial⟩
      refine stepStore hK hM 1 [.int .i64 s.kind, Str s.nm, Str s.loc, .int .i64 s.ord, .slice A2_2 K2_2.length c2_2, .slice s.A2 s.th.length s.c2, .slice s.A3 s.el.length s.c3] (by kernel_rfl) rfl rfl rfl rfl (by kernel_rfl) fun w hM => ?_
      replace hM := hM.to (.row b2 30 [.int .i64 0, Str [], Str [], .int .i64 0, .slice none 0 0, .slice none 0 0, .slice none 0 0] :: .row b1 30 [.int .i64 s.kind, Str s.nm, Str s.loc, .int .i64 s.ord, .slice A2_2 K2_2.length c2_2, .slice s.A2 s.th.length s.c2, .slice s.A3 s.el.length s.c3] :: ((G2_2 ++ G2_5) ++ G2_8)) (by kernel_rfl)
      refine tree_next #[true, true, true, true, true, true, true, true, true, true, true, false, false, false, false] (by kernel_rfl) ?_
      refine treeP hK 11 21 (pA b1 5) (by kernel_rfl) (by kernel_rfl) (by kernel_rfl) (fun w => (by kernel_rfl)) #[true, true, true, true, true, true, true, true, true, true, true, true, false, false, false] (by kernel_rfl) fun a hK => ?_
      refine treeM [12] (by kernel_rfl) rfl ⟨?_, trivial⟩
      refine stepStore hK hM 1 [.int .i64 s.kind, Str s.nm, Str s.loc, .int .i64 s.ord, .slice A2_2 K2_2.length c2_2, .slice A2_5 K2_5.length c2_5, .slice s.A3 s.el.length s.c3] (by kernel_rfl) rfl rfl rfl rfl (by kernel_rfl) fun w hM => ?_
      replace hM := hM.to (.row b2 30 [.int .i64 0, Str [], Str [], .int .i64 0, .slice none 0 0, .slice none 0 0, .slice none 0 0] :: .row b1 30 [.int .i64 s.kind, Str s.nm, Str s.loc, .int .i64 s.ord, .slice A2_2 K2_2.length c2_2, .slice A2_5 K2_5.length c2_5, .slice s.A3 s.el.length s.c3] :: ((G2_2 ++ G2_5) ++ G2_8)) (by kernel_rfl)
      refine tree_next #[true, true, true, true, true, true, true, true, true, true, true, true, true, false, false] (by kernel_rfl) ?_
      refine treeP hK 13 22 (pA b1 6) (by kernel_rfl) (by kernel_rfl) (by kernel_rfl) (fun w => (by kernel_rfl)) #[true, true, true, true, true, true, true, true, true, true, true, true, true, true, false] (by kernel_rfl) fun a hK => ?_
      refine treeM [14] (by kernel_rfl) rfl ⟨?_, trivial⟩
      refine stepStore hK hM 1 [.int .i64 s.kind, Str s.nm, Str s.loc, .int .i64 s.ord, .slice A2_2 K2_2.length c2_2, .slice A2_5 K2_5.length c2_5, .slice A2_8 K2_8.length c2_8] (by kernel_rfl) rfl rfl rfl rfl (by kernel_rfl) fun w hM => ?_
      replace hM := hM.to (.row b2 30 [.int .i64 0, Str [], Str [], .int .i64 0, .slice none 0 0, .slice none 0 0, .slice none 0 0] :: .row b1 30 [.int .i64 s.kind, Str s.nm, Str s.loc, .int .i64 s.ord, .slice A2_2 K2_2.length c2_2, .slice A2_5 K2_5.length c2_5, .slice A2_8 K2_8.length c2_8] :: ((G2_2 ++ G2_5) ++ G2_8)) (by kernel_rfl)
      refine tree_next #[true, true, true, true, true, true, true, true, true, true, true, true, true, true, true] (by kernel_rfl) ?_
      exact treeE (by kernel_rfl) ⟨A2_2, A2_5, A2_8, G2_2, G2_5, G2_8, K2_2, K2_5, K2_8, c2_2, c2_5, c2_8, hK.sub ⟨rfl, rfl, rfl, trivial⟩, hM, hi2_2, hi2_5, hi2_8, hq2_2, hq2_5, hq2_8, hr2_2, hr2_5, hr2_8⟩
     ·refine stepLoad hK 18 (.slice s.A3 s.el.length s.c3) (by kernel_rfl) rfl rfl ((hM.row 1 rfl).cells 6 1) (by kernel_rfl) fun a hK => ?_
      refine tree_next #[true, true, true, true, true, false, true, true, false, false, false, false, false, false, false] (by kernel_rfl) ?_
      refine treeP hK 9 20 (pA b1 4) (by kernel_rfl) (by kernel_rfl) (by kernel_rfl) (fun w => (by kernel_rfl)) #[true, true, true, true, true, false, true, true, false, true, false, false, false, false, false] (by kernel_rfl) fun a hK => ?_
      refine treeM [5] (by kernel_rfl) rfl ⟨?_, trivial⟩
      refine stepCall hK hM 16 #[.slice s.A2 s.th.length s.c2] (by kernel_rfl) (run_callE en_ast_copyStmts rfl rfl (by kernel_rfl)) (h1 _ _ _ (hs.thn.on hM.below) (by omega)) ?_
      rintro ⟨K2_5, A2_5, c2_5, G2_5⟩ a w ⟨hq2_5, hi2_5, hr2_5⟩ hK hM
      replace hM := (Mem.comm hM).to ((.row b2 30 [.int .i64 0, Str [], Str [], .int .i64 0, .slice none 0 0, .slice none 0 0, .slice none 0 0] :: .row b1 30 (cS s) :: (G2_2 ++ G2_5))) (by kernel_rfl)
      refine tree_next #[true, true, true, true, true, true, true, true, false, true, false, false, false, false, false] (by kernel_rfl) ?_
      refine treeM [8] (by kernel_rfl) rfl ⟨?_, trivial⟩
      refine stepCall hK hM 19 #[.slice s.A3 s.el.length s.c3] (by kernel_rfl) (run_callE en_ast_copyStmts rfl rfl (by kernel_rfl)) (h2 _ _ _ (hs.els.on hM.below) (by omega)) ?_
      rintro ⟨K2_8, A2_8, c2_8, G2_8⟩ a w ⟨hq2_8, hi2_8, hr2_8⟩ hK hM
      replace hM := (Mem.comm hM).to ((.row b2 30 [.int .i64 0, Str [], Str [], .int .i64 0, .slice none 0 0, .slice none 0 0, .slice none 0 0] :: .row b1 30 (cS s) :: ((G2_2 ++ G2_5) ++ G2_8))) (by kernel_rfl)
      refine tree_next #[true, true, true, true, true, true, true, true, true, true, false, false, false, false, false] (by kernel_rfl) ?_
      refine treeM [10] (by kernel_rfl) rfl ⟨?_, trivial⟩
      refine stepStore hK hM 1 [.int .i64 s.kind, Str s.nm, Str s.loc, .int .i64 s.ord, .slice A2_2 K2_2.length c2_2, .slice s.A2 s.th.length s.c2, .slice s.A3 s.el.length s.c3] (by kernel_rfl) rfl rfl rfl rfl (by kernel_rfl) fun w hM => ?_
      replace hM := hM.to (.row b2 30 [.int .i64 0, Str [], Str [], .int .i64 0, .slice none 0 0, .slice none 0 0, .slice none 0 0] :: .row b1 30 [.int .i64 s.kind, Str s.nm, Str s.loc, .int .i64 s.ord, .slice A2_2 K2_2.length c2_2, .slice s.A2 s.th.length s.c2, .slice s.A3 s.el.length s.c3] :: ((G2_2 ++ G2_5) ++ G2_8)) (by kernel_rfl)
      refine tree_next #[true, true, true, true, true, true, true, true, true, true, true, false, false, false, false] (by kernel_rfl) ?_
      refine treeP hK 11 21 (pA b1 5) (by kernel_rfl) (by kernel_rfl) (by kernel_rfl) (fun w => (by kernel_rfl)) #[true, true, true, true, true, true, true, true, true, true, true, true, false, false, false] (by kernel_rfl) fun a hK => ?_
      refine treeM [12] (by kernel_rfl) rfl ⟨?_, trivial⟩
      refine stepStore hK hM 1 [.int .i64 s.kind, Str s.nm, Str s.loc, .int .i64 s.ord, .slice A2_2 K2_2.length c2_2, .slice A2_5 K2_5.length c2_5, .slice s.A3 s.el.length s.c3] (by kernel_rfl) rfl rfl rfl rfl (by kernel_rfl) fun w hM => ?_
      replace hM := hM.to (.row b2 30 [.int .i64 0, Str [], Str [], .int .i64 0, .slice none 0 0, .slice none 0 0, .slice none 0 0] :: .row b1 30 [.int .i64 s.kind, Str s.nm, Str s.loc, .int .i64 s.ord, .slice A2_2 K2_2.length c2_2, .slice A2_5 K2_5.length c2_5, .slice s.A3 s.el.length s.c3] :: ((G2_2 ++ G2_5) ++ G2_8)) (by kernel_rfl)
      refine tree_next #[true, true, true, true, true, true, true, true, true, true, true, true, true, false, false] (by kernel_rfl) ?_
      refine treeP hK 13 22 (pA b1 6) (by kernel_rfl) (by kernel_rfl) (by kernel_rfl) (fun w => (by kernel_rfl)) #[true, true, true, true, true, true, true, true, true, true, true, true, true, true, false] (by kernel_rfl) fun a hK => ?_
      refine treeM [14] (by kernel_rfl) rfl ⟨?_, trivial⟩
      refine stepStore hK hM 1 [.int .i64 s.kind, Str s.nm, Str s.loc, .int .i64 s.ord, .slice A2_2 K2_2.length c2_2, .slice A2_5 K2_5.length c2_5, .slice A2_8 K2_8.length c2_8] (by kernel_rfl) rfl rfl rfl rfl (by kernel_rfl) fun w hM => ?_
      replace hM := hM.to (.row b2 30 [.int .i64 0, Str [], Str [], .int .i64 0, .slice none 0 0, .slice none 0 0, .slice none 0 0] :: .row b1 30 [.int .i64 s.kind, Str s.nm, Str s.loc, .int .i64 s.ord, .slice A2_2 K2_2.length c2_2, .slice A2_5 K2_5.length c2_5, .slice A2_8 K2_8.length c2_8] :: ((G2_2 ++ G2_5) ++ G2_8)) (by kernel_rfl)
      refine tree_next #[true, true, true, true, true, true, true, true, true, true, true, true, true, true, true] (by kernel_rfl) ?_
      exact treeE (by kernel_rfl) ⟨A2_2, A2_5, A2_8, G2_2, G2_5, G2_8, K2_2, K2_5, K2_8, c2_2, c2_5, c2_8, hK.sub ⟨rfl, rfl, rfl, trivial⟩, hM, hi2_2, hi2_5, hi2_8, hq2_2, hq2_5, hq2_8, hr2_2, hr2_5, hr2_8⟩
    ·refine stepLoad hK 18 (.slice s.A3 s.el.length s.c3) (by kernel_rfl) rfl rfl ((hM.row 1 rfl).cells 6 1) (by kernel_rfl) fun a hK => ?_
     refine tree_next #[true, true, false, true, true, false, true, true, false, false, false, false, false, false, false] (by kernel_rfl) ?_
     refine treeM [2] (by kernel_rfl) rfl ⟨?_, trivial⟩
     refine stepCall hK hM 13 #[.slice s.A1 s.es.length s.c1, .func (.func 89) #[] #[]] (by kernel_rfl) (run_callE en_each_Expr rfl rfl (by kernel_rfl)) (ast_eachE s.es (fun x hx w1 h1 => ast_copyExpr x w1 h1 (exsSh_mem hssh.2.2.1 hx) (by have h8 := exsSz_mem hx; omega)) _ _ _ (hs.exprs.on hM.below) (by omega)) ?_
     rintro ⟨K2_2, A2_2, c2_2, G2_2⟩ a w ⟨hq2_2, hi2_2, hr2_2⟩ hK hM
     replace hM := (Mem.comm hM).to ((.row b2 30 [.int .i64 0, Str [], Str [], .int .i64 0, .slice none 0 0, .slice none 0 0, .slice none 0 0] :: .row b1 30 (cS s) :: G2_2)) (by kernel_rfl)
     refine tree_next #[true, true, true, true, true, false, true, true, false, false, false, false, false, false, false] (by kernel_rfl) ?_
     refine treeP hK 9 20 (pA b1 4) (by kernel_rfl) (by kernel_rfl) (by kernel_rfl) (fun w => (by kernel_rfl)) #[true, true, true, true, true, false, true, true, false, true, false, false, false, false, false] (by kernel_rfl) fun a hK => ?_
     refine treeM [5] (by kernel_rfl) rfl ⟨?_, trivial⟩
     refine stepCall hK hM 16 #[.slice s.A2 s.th.length s.c2] (by kernel_rfl) (run_callE en_ast_copyStmts rfl rfl (by kernel_rfl)) (h1 _ _ _ (hs.thn.on hM.below) (by omega)) ?_
     rintro ⟨K2_5, A2_5, c2_5, G2_5⟩ a w ⟨hq2_5, hi2_5, hr2_5⟩ hK hM
     replace hM := (Mem.comm hM).to ((.row b2 30 [.int .i64 0, Str [], Str [], .int .i64 0, .slice none 0 0, .slice none 0 0, .slice none 0 0] :: .row b1 30 (cS s) :: (G2_2 ++ G2_5))) (by kernel_rfl)
     refine tree_next #[true, true, true, true, true, true, true, true, false, true, false, false, false, false, false] (by kernel_rfl) ?_
     refine treeM [8] (by kernel_rfl) rfl ⟨?_, trivial⟩
     refine stepCall hK hM 19 #[.slice s.A3 s.el.length s.c3] (by kernel_rfl) (run_callE en_ast_copyStmts rfl rfl (by kernel_rfl)) (h2 _ _ _ (hs.els.on hM.below) (by omega)) ?_
     rintro ⟨K2_8, A2_8, c2_8, G2_8⟩ a w ⟨hq2_8, hi2_8, hr2_8⟩ hK hM
     replace hM := (Mem.comm hM).to ((.row b2 30 [.int .i64 0, Str [], Str [], .int .i64 0, .slice none 0 0, .slice none 0 0, .slice none 0 0] :: .row b1 30 (cS s) :: ((G2_2 ++ G2_5) ++ G2_8))) (by kernel_rfl)
     refine tree_next #[true, true, true, true, true, true, true, true, true, true, false, false, false, false, false] (by kernel_rfl) ?_
     refine treeM [10] (by kernel_rfl) rfl ⟨?_, trivial⟩
     refine stepStore hK hM 1 [.int .i64 s.kind, Str s.nm, Str s.loc, .int .i64 s.ord, .slice A2_2 K2_2.length c2_2, .slice s.A2 s.th.length s.c2, .slice s.A3 s.el.length s.c3] (by kernel_rfl) rfl rfl rfl rfl (by kernel_rfl) fun w hM => ?_
     replace hM := hM.to (.row b2 30 [.int .i64 0, Str [], Str [], .int .i64 0, .slice none 0 0, .slice none 0 0, .slice none 0 0] :: .row b1 30 [.int .i64 s.kind, Str s.nm, Str s.loc, .int .i64 s.ord, .slice A2_2 K2_2.length c2_2, .slice s.A2 s.th.length s.c2, .slice s.A3 s.el.length s.c3] :: ((G2_2 ++ G2_5) ++ G2_8)) (by kernel_rfl)
     refine tree_next #[true, true, true, true, true, true, true, true, true, true, true, false, false, false, false] (by kernel_rfl) ?_
     refine treeP hK 11 21 (pA b1 5) (by kernel_rfl) (by kernel_rfl) (by kernel_rfl) (fun w => (by kernel_rfl)) #[true, true, true, true, true, true, true, true, true, true, true, true, false, false, false] (by kernel_rfl) fun a hK => ?_
     refine treeM [12] (by kernel_rfl) rfl ⟨?_, trivial⟩
     refine stepStore hK hM 1 [.int .i64 s.kind, Str s.nm, Str s.loc, .int .i64 s.ord, .slice A2_2 K2_2.length c2_2, .slice A2_5 K2_5.length c2_5, .slice s.A3 s.el.length s.c3] (by kernel_rfl) rfl rfl rfl rfl (by kernel_rfl) fun w hM => ?_
     replace hM := hM.to (.row b2 30 [.int .i64 0, Str [], Str [], .int .i64 0, .slice none 0 0, .slice none 0 0, .slice none 0 0] :: .row b1 30 [.int .i64 s.kind, Str s.nm, Str s.loc, .int .i64 s.ord, .slice A2_2 K2_2.length c2_2, .slice A2_5 K2_5.length c2_5, .slice s.A3 s.el.length s.c3] :: ((G2_2 ++ G2_5) ++ G2_8)) (by kernel_rfl)
     refine tree_next #[true, true, true, true, true, true, true, true, true, true, true, true, true, false, false] (by kernel_rfl) ?_
     refine treeP hK 13 22 (pA b1 6) (by kernel_rfl) (by kernel_rfl) (by kernel_rfl) (fun w => (by kernel_rfl)) #[true, true, true, true, true, true, true, true, true, true, true, true, true, true, false] (by kernel_rfl) fun a hK => ?_
     refine treeM [14] (by kernel_rfl) rfl ⟨?_, trivial⟩
     refine stepStore hK hM 1 [.int .i64 s.kind, Str s.nm, Str s.loc, .int .i64 s.ord, .slice A2_2 K2_2.length c2_2, .slice A2_5 K2_5.length c2_5, .slice A2_8 K2_8.length c2_8] (by kernel_rfl) rfl rfl rfl rfl (by kernel_rfl) fun w hM => ?_
     replace hM := hM.to (.row b2 30 [.int .i64 0, Str [], Str [], .int .i64 0, .slice none 0 0, .slice none 0 0, .slice none 0 0] :: .row b1 30 [.int .i64 s.kind, Str s.nm, Str s.loc, .int .i64 s.ord, .slice A2_2 K2_2.length c2_2, .slice A2_5 K2_5.length c2_5, .slice A2_8 K2_8.length c2_8] :: ((G2_2 ++ G2_5) ++ G2_8)) (by kernel_rfl)
     refine tree_next #[true, true, true, true, true, true, true, true, true, true, true, true, true, true, true] (by kernel_rfl) ?_
     exact treeE (by kernel_rfl) ⟨A2_2, A2_5, A2_8, G2_2, G2_5, G2_8, K2_2, K2_5, K2_8, c2_2, c2_5, c2_8, hK.sub ⟨rfl, rfl, rfl, trivial⟩, hM, hi2_2, hi2_5, hi2_8, hq2_2, hq2_5, hq2_8, hr2_2, hr2_5, hr2_8⟩
   ·refine stepLoad hK 18 (.slice s.A3 s.el.length s.c3) (by kernel_rfl) rfl rfl ((hM.row 1 rfl).cells 6 1) (by kernel_rfl) fun a hK => ?_
    refine tree_next #[true, false, false, true, true, false, true, true, false, false, false, false, false, false, false] (by kernel_rfl) ?_
    refine treeM [1] (by kernel_rfl) rfl ⟨?_, trivial⟩
    refine stepLoad hK 12 (.slice s.A1 s.es.length s.c1) (by kernel_rfl) rfl rfl ((hM.row 1 rfl).cells 4 1) (by kernel_rfl) fun a hK => ?_
    refine tree_next #[true, true, false, true, true, false, true, true, false, false, false, false, false, false, false] (by kernel_rfl) ?_
    refine treeM [2] (by kernel_rfl) rfl ⟨?_, trivial⟩
    refine stepCall hK hM 13 #[.slice s.A1 s.es.length s.c1, .func (.func 89) #[] #[]] (by kernel_rfl) (run_callE en_each_Expr rfl rfl (by kernel_rfl)) (ast_eachE s.es (fun x hx w1 h1 => ast_copyExpr x w1 h1 (exsSh_mem hssh.2.2.1 hx) (by have h8 := exsSz_mem hx; omega)) _ _ _ (hs.exprs.on hM.below) (by omega)) ?_
    rintro ⟨K2_2, A2_2, c2_2, G2_2⟩ a w ⟨hq2_2, hi2_2, hr2_2⟩ hK hM
    replace hM := (Mem.comm hM).to ((.row b2 30 [.int .i64 0, Str [], Str [], .int .i64 0, .slice none 0 0, .slice none 0 0, .slice none 0 0] :: .row b1 30 (cS s) :: G2_2)) (by kernel_rfl)
    refine tree_next #[true, true, true, true, true, false, true, true, false, false, false, false, false, false, false] (by kernel_rfl) ?_
    refine treeP hK 9 20 (pA b1 4) (by kernel_rfl) (by kernel_rfl) (by kernel_rfl) (fun w => (by kernel_rfl)) #[true, true, true, true, true, false, true, true, false, true, false, false, false, false, false] (by kernel_rfl) fun a hK => ?_
    refine treeM [5] (by kernel_rfl) rfl ⟨?_, trivial⟩
    refine stepCall hK hM 16 #[.slice s.A2 s.th.length s.c2] (by kernel_rfl) (run_callE en_ast_copyStmts rfl rfl (by kernel_rfl)) (h1 _ _ _ (hs.thn.on hM.below) (by omega)) ?_
    rintro ⟨K2_5, A2_5, c2_5, G2_5⟩ a w ⟨hq2_5, hi2_5, hr2_5⟩ hK hM
    replace hM := (Mem.comm hM).to ((.row b2 30 [.int .i64 0, Str [], Str [], .int .i64 0, .slice none 0 0, .slice none 0 0, .slice none 0 0] :: .row b1 30 (cS s) :: (G2_2 ++ G2_5))) (by kernel_rfl)
    refine tree_next #[true, true, true, true, true, true, true, true, false, true, false, false, false, false, false] (by kernel_rfl) ?_
    refine treeM [8] (by kernel_rfl) rfl ⟨?_, trivial⟩
    refine stepCall hK hM 19 #[.slice s.A3 s.el.length s.c3] (by kernel_rfl) (run_callE en_ast_copyStmts rfl rfl (by kernel_rfl)) (h2 _ _ _ (hs.els.on hM.below) (by omega)) ?_
    rintro ⟨K2_8, A2_8, c2_8, G2_8⟩ a w ⟨hq2_8, hi2_8, hr2_8⟩ hK hM
    replace hM := (Mem.comm hM).to ((.row b2 30 [.int .i64 0, Str [], Str [], .int .i64 0, .slice none 0 0, .slice none 0 0, .slice none 0 0] :: .row b1 30 (cS s) :: ((G2_2 ++ G2_5) ++ G2_8))) (by kernel_rfl)
    refine tree_next #[true, true, true, true, true, true, true, true, true, true, false, false, false, false, false] (by kernel_rfl) ?_
    refine treeM [10] (by kernel_rfl) rfl ⟨?_, trivial⟩
    refine stepStore hK hM 1 [.int .i64 s.kind, Str s.nm, Str s.loc, .int .i64 s.ord, .slice A2_2 K2_2.length c2_2, .slice s.A2 s.th.length s.c2, .slice s.A3 s.el.length s.c3] (by kernel_rfl) rfl rfl rfl rfl (by kernel_rfl) fun w hM => ?_
    replace hM := hM.to (.row b2 30 [.int .i64 0, Str [], Str [], .int .i64 0, .slice none 0 0, .slice none 0 0, .slice none 0 0] :: .row b1 30 [.int .i64 s.kind, Str s.nm, Str s.loc, .int .i64 s.ord, .slice A2_2 K2_2.length c2_2, .slice s.A2 s.th.length s.c2, .slice s.A3 s.el.length s.c3] :: ((G2_2 ++ G2_5) ++ G2_8)) (by kernel_rfl)
    refine tree_next #[true, true, true, true, true, true, true, true, true, true, true, false, false, false, false] (by kernel_rfl) ?_
    refine treeP hK 11 21 (pA b1 5) (by kernel_rfl) (by kernel_rfl) (by kernel_rfl) (fun w => (by kernel_rfl)) #[true, true, true, true, true, true, true, true, true, true, true, true, false, false, false] (by kernel_rfl) fun a hK => ?_
    refine treeM [12] (by kernel_rfl) rfl ⟨?_, trivial⟩
    refine stepStore hK hM 1 [.int .i64 s.kind, Str s.nm, Str s.loc, .int .i64 s.ord, .slice A2_2 K2_2.length c2_2, .slice A2_5 K2_5.length c2_5, .slice s.A3 s.el.length s.c3] (by kernel_rfl) rfl rfl rfl rfl (by kernel_rfl) fun w hM => ?_
    replace hM := hM.to (.row b2 30 [.int .i64 0, Str [], Str [], .int .i64 0, .slice none 0 0, .slice none 0 0, .slice none 0 0] :: .row b1 30 [.int .i64 s.kind, Str s.nm, Str s.loc, .int .i64 s.ord, .slice A2_2 K2_2.length c2_2, .slice A2_5 K2_5.length c2_5, .slice s.A3 s.el.length s.c3] :: ((G2_2 ++ G2_5) ++ G2_8)) (by kernel_rfl)
    refine tree_next #[true, true, true, true, true, true, true, true, true, true, true, true, true, false, false] (by kernel_rfl) ?_
    refine treeP hK 13 22 (pA b1 6) (by kernel_rfl) (by kernel_rfl) (by kernel_rfl) (fun w => (by kernel_rfl)) #[true, true, true, true, true, true, true, true, true, true, true, true, true, true, false] (by kernel_rfl) fun a hK => ?_
    refine treeM [14] (by kernel_rfl) rfl ⟨?_, trivial⟩
    refine stepStore hK hM 1 [.int .i64 s.kind, Str s.nm, Str s.loc, .int .i64 s.ord, .slice A2_2 K2_2.length c2_2, .slice A2_5 K2_5.length c2_5, .slice A2_8 K2_8.length c2_8] (by kernel_rfl) rfl rfl rfl rfl (by kernel_rfl) fun w hM => ?_
    replace hM := hM.to (.row b2 30 [.int .i64 0, Str [], Str [], .int .i64 0, .slice none 0 0, .slice none 0 0, .slice none 0 0] :: .row b1 30 [.int .i64 s.kind, Str s.nm, Str s.loc, .int .i64 s.ord, .slice A2_2 K2_2.length c2_2, .slice A2_5 K2_5.length c2_5, .slice A2_8 K2_8.length c2_8] :: ((G2_2 ++ G2_5) ++ G2_8)) (by kernel_rfl)
    refine tree_next #[true, true, true, true, true, true, true, true, true, true, true, true, true, true, true] (by kernel_rfl) ?_
    exact treeE (by kernel_rfl) ⟨A2_2, A2_5, A2_8, G2_2, G2_5, G2_8, K2_2, K2_5, K2_8, c2_2, c2_5, c2_8, hK.sub ⟨rfl, rfl, rfl, trivial⟩, hM, hi2_2, hi2_5, hi2_8, hq2_2, hq2_5, hq2_8, hr2_2, hr2_5, hr2_8⟩
  ·refine stepLoad hK 18 (.slice s.A3 s.el.length s.c3) (by kernel_rfl) rfl rfl ((hM.row 1 rfl).cells 6 1) (by kernel_rfl) fun a hK => ?_
   refine tree_next #[true, false, false, true, false, false, true, true, false, false, false, false, false, false, false] (by kernel_rfl) ?_
   refine treeM [1, 4] (by kernel_rfl) rfl ⟨?_, ?_, trivial⟩
   ·refine stepLoad hK 12 (.slice s.A1 s.es.length s.c1) (by kernel_rfl) rfl rfl ((hM.row 1 rfl).cells 4 1) (by kernel_rfl) fun a hK => ?_
    refine tree_next #[true, true, false, true, false, false, true, true, false, false, false, false, false, false, false] (by kernel_rfl) ?_
    refine treeM [2, 4] (by kernel_rfl) rfl ⟨?_, ?_, trivial⟩
    ·refine stepCall hK hM 13 #[.slice s.A1 s.es.length s.c1, .func (.func 89) #[] #[]] (by kernel_rfl) (run_callE en_each_Expr rfl rfl (by kernel_rfl)) (ast_eachE s.es (fun x hx w1 h1 => ast_copyExpr x w1 h1 (exsSh_mem hssh.2.2.1 hx) (by have h8 := exsSz_mem hx; omega)) _ _ _ (hs.exprs.on hM.below) (by omega)) ?_
     rintro ⟨K2_2, A2_2, c2_2, G2_2⟩ a w ⟨hq2_2, hi2_2, hr2_2⟩ hK hM
     replace hM := (Mem.comm hM).to ((.row b2 30 [.int .i64 0, Str [], Str [], .int .i64 0, .slice none 0 0, .slice none 0 0, .slice none 0 0] :: .row b1 30 (cS s) :: G2_2)) (by kernel_rfl)
     refine tree_next #[true, true, true, true, false, false, true, true, false, false, false, false, false, false, false] (by kernel_rfl) ?_
     refine treeM [4] (by kernel_rfl) rfl ⟨?_, trivial⟩
     refine stepLoad hK 15 (.slice s.A2 s.th.length s.c2) (by kernel_rfl) rfl rfl ((hM.row 1 rfl).cells 5 1) (by kernel_rfl) fun a hK => ?_
     refine tree_next #[true, true, true, true, true, false, true, true, false, false, false, false, false, false, false] (by kernel_rfl) ?_
     refine treeP hK 9 20 (pA b1 4) (by kernel_rfl) (by kernel_rfl) (by kernel_rfl) (fun w => (by kernel_rfl)) #[true, true, true, true, true, false, true, true, false, true, false, false, false, false, false] (by kernel_rfl) fun a hK => ?_
     refine treeM [5] (by kernel_rfl) rfl ⟨?_, trivial⟩
     refine stepCall hK hM 16 #[.slice s.A2 s.th.length s.c2] (by kernel_rfl) (run_callE en_ast_copyStmts rfl rfl (by kernel_rfl)) (h1 _ _ _ (hs.thn.on hM.below) (by omega)) ?_
     rintro ⟨K2_5, A2_5, c2_5, G2_5⟩ a w ⟨hq2_5, hi2_5, hr2_5⟩ hK hM
     replace hM := (Mem.comm hM).to ((.row b2 30 [.int .i64 0, Str [], Str [], .int .i64 0, .slice none 0 0, .slice none 0 0, .slice none 0 0] :: .row b1 30 (cS s) :: (G2_2 ++ G2_5))) (by kernel_rfl)
     refine tree_next #[true, true, true, true, true, true, true, true, false, true, false, false, false, false, false] (by kernel_rfl) ?_
     refine treeM [8] (by kernel_rfl) rfl ⟨?_, trivial⟩
     refine stepCall hK hM 19 #[.slice s.A3 s.el.length s.c3] (by kernel_rfl) (run_callE en_ast_copyStmts rfl rfl (by kernel_rfl)) (h2 _ _ _ (hs.els.on hM.below) (by omega)) ?_
     rintro ⟨K2_8, A2_8, c2_8, G2_8⟩ a w ⟨hq2_8, hi2_8, hr2_8⟩ hK hM
     replace hM := (Mem.comm hM).to ((.row b2 30 [.int .i64 0, Str [], Str [], .int .i64 0, .slice none 0 0, .slice none 0 0, .slice none 0 0] :: .row b1 30 (cS s) :: ((G2_2 ++ G2_5) ++ G2_8))) (by kernel_rfl)
     refine tree_next #[true, true, true, true, true, true, true, true, true, true, false, false, false, false, false] (by kernel_rfl) ?_
     refine treeM [10] (by kernel_rfl) rfl ⟨?_, trivial⟩
     refine stepStore hK hM 1 [.int .i64 s.kind, Str s.nm, Str s.loc, .int .i64 s.ord, .slice A2_2 K2_2.length c2_2, .slice s.A2 s.th.length s.c2, .slice s.A3 s.el.length s.c3] (by kernel_rfl) rfl rfl rfl rfl (by kernel_rfl) fun w hM => ?_
     replace hM := hM.to (.row b2 30 [.int .i64 0, Str [], Str [], .int .i64 0, .slice none 0 0, .slice none 0 0, .slice none 0 0] :: .row b1 30 [.int .i64 s.kind, Str s.nm, Str s.loc, .int .i64 s.ord, .slice A2_2 K2_2.length c2_2, .slice s.A2 s.th.length s.c2, .slice s.A3 s.el.length s.c3] :: ((G2_2 ++ G2_5) ++ G2_8)) (by kernel_rfl)
     refine tree_next #[true, true, true, true, true, true, true, true, true, true, true, false, false, false, false] (by kernel_rfl) ?_
     refine treeP hK 11 21 (pA b1 5) (by kernel_rfl) (by kernel_rfl) (by kernel_rfl) (fun w => (by kernel_rfl)) #[true, true, true, true, true, true, true, true, true, true, true, true, false, false, false] (by kernel_rfl) fun a hK => ?_
     refine treeM [12] (by kernel_rfl) rfl ⟨?_, trivial⟩
     refine stepStore hK hM 1 [.int .i64 s.kind, Str s.nm, Str s.loc, .int .i64 s.ord, .slice A2_2 K2_2.length c2_2, .slice A2_5 K2_5.length c2_5, .slice s.A3 s.el.length s.c3] (by kernel_rfl) rfl rfl rfl rfl (by kernel_rfl) fun w hM => ?_
     replace hM := hM.to (.row b2 30 [.int .i64 0, Str [], Str [], .int .i64 0, .slice none 0 0, .slice none 0 0, .slice none 0 0] :: .row b1 30 [.int .i64 s.kind, Str s.nm, Str s.loc, .int .i64 s.ord, .slice A2_2 K2_2.length c2_2, .slice A2_5 K2_5.length c2_5, .slice s.A3 s.el.length s.c3] :: ((G2_2 ++ G2_5) ++ G2_8)) (by kernel_rfl)
     refine tree_next #[true, true, true, true, true, true, true, true, true, true, true, true, true, false, false] (by kernel_rfl) ?_
     refine treeP hK 13 22 (pA b1 6) (by kernel_rfl) (by kernel_rfl) (by kernel_rfl) (fun w => (by kernel_rfl)) #[true, true, true, true, true, true, true, true, true, true, true, true, true, true, false] (by kernel_rfl) fun a hK => ?_
     refine treeM [14] (by kernel_rfl) rfl ⟨?_, trivial⟩
     refine stepStore hK hM 1 [.int .i64 s.kind, Str s.nm, Str s.loc, .int .i64 s.ord, .slice A2_2 K2_2.length c2_2, .slice A2_5 K2_5.length c2_5, .slice A2_8 K2_8.length c2_8] (by kernel_rfl) rfl rfl rfl rfl (by kernel_rfl) fun w hM => ?_
     replace hM := hM.to (.row b2 30 [.int .i64 0, Str [], Str [], .int .i64 0, .slice none 0 0, .slice none 0 0, .slice none 0 0] :: .row b1 30 [.int .i64 s.kind, Str s.nm, Str s.loc, .int .i64 s.ord, .slice A2_2 K2_2.length c2_2, .slice A2_5 K2_5.length c2_5, .slice A2_8 K2_8.length c2_8] :: ((G2_2 ++ G2_5) ++ G2_8)) (by kernel_rfl)
     refine tree_next #[true, true, true, true, true, true, true, true, true, true, true, true, true, true, true] (by kernel_rfl) ?_
     exact treeE (by kernel_rfl) ⟨A2_2, A2_5, A2_8, G2_2, G2_5, G2_8, K2_2, K2_5, K2_8, c2_2, c2_5, c2_8, hK.sub ⟨rfl, rfl, rfl, trivial⟩, hM, hi2_2, hi2_5, hi2_8, hq2_2, hq2_5, hq2_8, hr2_2, hr2_5, hr2_8⟩
    ·refine stepLoad hK 15 (.slice s.A2 s.th.length s.c2) (by kernel_rfl) rfl rfl ((hM.row 1 rfl).cells 5 1) (by kernel_rfl) fun a hK => ?_
     refine tree_next #[true, true, false, true, true, false, true, true, false, false, false, false, false, false, false] (by kernel_rfl) ?_
     refine treeM [2] (by kernel_rfl) rfl ⟨?_, trivial⟩
     refine stepCall hK hM 13 #[.slice s.A1 s.es.length s.c1, .func (.func 89) #[] #[]] (by kernel_rfl) (run_callE en_each_Expr rfl rfl (by kernel_rfl)) (ast_eachE s.es (fun x hx w1 h1 => ast_copyExpr x w1 h1 (exsSh_mem hssh.2.2.1 hx) (by have h8 := exsSz_mem hx; omega)) _ _ _ (hs.exprs.on hM.below) (by omega)) ?_
     rintro ⟨K2_2, A2_2, c2_2, G2_2⟩ a w ⟨hq2_2, hi2_2, hr2_2⟩ hK hM
     replace hM := (Mem.comm hM).to ((.row b2 30 [.int .i64 0, Str [], Str [], .int .i64 0, .slice none 0 0, .slice none 0 0, .slice none 0 0] :: .row b1 30 (cS s) :: G2_2)) (by kernel_rfl)
     refine tree_next #[true, true, true, true, true, false, true, true, false, false, false, false, false, false, false] (by kernel_rfl) ?_
     refine treeP hK 9 20 (pA b1 4) (by kernel_rfl) (by kernel_rfl) (by kernel_rfl) (fun w => (by kernel_rfl)) #[true, true, true, true, true, false, true, true, false, true, false, false, false, false, false] (by kernel_rfl) fun a hK => ?_
     refine treeM [5] (by kernel_rfl) rfl ⟨?_, trivial⟩
     refine stepCall hK hM 16 #[.slice s.A2 s.th.length s.c2] (by kernel_rfl) (run_callE en_ast_copyStmts rfl rfl (by kernel_rfl)) (h1 _ _ _ (hs.thn.on hM.below) (by omega)) ?_
     rintro ⟨K2_5, A2_5, c2_5, G2_5⟩ a w ⟨hq2_5, hi2_5, hr2_5⟩ hK hM
     replace hM := (Mem.comm hM).to ((.row b2 30 [.int .i64 0, Str [], Str [], .int .i64 0, .slice none 0 0, .slice none 0 0, .slice none 0 0] :: .row b1 30 (cS s) :: (G2_2 ++ G2_5))) (by kernel_rfl)
     refine tree_next #[true, true, true, true, true, true, true, true, false, true, false, false, false, false, false] (by kernel_rfl) ?_
     refine treeM [8] (by kernel_rfl) rfl ⟨?_, trivial⟩
     refine stepCall hK hM 19 #[.slice s.A3 s.el.length s.c3] (by kernel_rfl) (run_callE en_ast_copyStmts rfl rfl (by kernel_rfl)) (h2 _ _ _ (hs.els.on hM.below) (by omega)) ?_
     rintro ⟨K2_8, A2_8, c2_8, G2_8⟩ a w ⟨hq2_8, hi2_8, hr2_8⟩ hK hM
     replace hM := (Mem.comm hM).to ((.row b2 30 [.int .i64 0, Str [], Str [], .int .i64 0, .slice none 0 0, .slice none 0 0, .slice none 0 0] :: .row b1 30 (cS s) :: ((G2_2 ++ G2_5) ++ G2_8))) (by kernel_rfl)
     refine tree_next #[true, true, true, true, true, true, true, true, true, true, false, false, false, false, false] (by kernel_rfl) ?_
     refine treeM [10] (by kernel_rfl) rfl ⟨?_, trivial⟩
     refine stepStore hK hM 1 [.int .i64 s.kind, Str s.nm, Str s.loc, .int .i64 s.ord, .slice A2_2 K2_2.length c2_2, .slice s.A2 s.th.length s.c2, .slice s.A3 s.el.length s.c3] (by kernel_rfl) rfl rfl rfl rfl (by kernel_rfl) fun w hM => ?_
     replace hM := hM.to (.row b2 30 [.int .i64 0, Str [], Str [], .int .i64 0, .slice none 0 0, .slice none 0 0, .slice none 0 0] :: .row b1 30 [.int .i64 s.kind, Str s.nm, Str s.loc, .int .i64 s.ord, .slice A2_2 K2_2.length c2_2, .slice s.A2 s.th.length s.c2, .slice s.A3 s.el.length s.c3] :: ((G2_2 ++ G2_5) ++ G2_8)) (by kernel_rfl)
     refine tree_next #[true, true, true, true, true, true, true, true, true, true, true, false, false, false, false] (by kernel_rfl) ?_
     refine treeP hK 11 21 (pA b1 5) (by kernel_rfl) (by kernel_rfl) (by kernel_rfl) (fun w => (by kernel_rfl)) #[true, true, true, true, true, true, true, true, true, true, true, true, false, false, false] (by kernel_rfl) fun a hK => ?_
     refine treeM [12] (by kernel_rfl) rfl ⟨?_, trivial⟩
     refine stepStore hK hM 1 [.int .i64 s.kind, Str s.nm, Str s.loc, .int .i64 s.ord, .slice A2_2 K2_2.length c2_2, .slice A2_5 K2_5.length c2_5, .slice s.A3 s.el.length s.c3] (by kernel_rfl) rfl rfl rfl rfl (by kernel_rfl) fun w hM => ?_
     replace hM := hM.to (.row b2 30 [.int .i64 0, Str [], Str [], .int .i64 0, .slice none 0 0, .slice none 0 0, .slice none 0 0] :: .row b1 30 [.int .i64 s.kind, Str s.nm, Str s.loc, .int .i64 s.ord, .slice A2_2 K2_2.length c2_2, .slice A2_5 K2_5.length c2_5, .slice s.A3 s.el.length s.c3] :: ((G2_2 ++ G2_5) ++ G2_8)) (by kernel_rfl)
     refine tree_next #[true, true, true, true, true, true, true, true, true, true, true, true, true, false, false] (by kernel_rfl) ?_
     refine treeP hK 13 22 (pA b1 6) (by kernel_rfl) (by kernel_rfl) (by kernel_rfl) (fun w => (by kernel_rfl)) #[true, true, true, true, true, true, true, true, true, true, true, true, true, true, false] (by kernel_rfl) fun a hK => ?_
     refine treeM [14] (by kernel_rfl) rfl ⟨?_, trivial⟩
     refine stepStore hK hM 1 [.int .i64 s.kind, Str s.nm, Str s.loc, .int .i64 s.ord, .slice A2_2 K2_2.length c2_2, .slice A2_5 K2_5.length c2_5, .slice A2_8 K2_8.length c2_8] (by kernel_rfl) rfl rfl rfl rfl (by kernel_rfl) fun w hM => ?_
     replace hM := hM.to (.row b2 30 [.int .i64 0, Str [], Str [], .int .i64 0, .slice none 0 0, .slice none 0 0, .slice none 0 0] :: .row b1 30 [.int .i64 s.kind, Str s.nm, Str s.loc, .int .i64 s.ord, .slice A2_2 K2_2.length c2_2, .slice A2_5 K2_5.length c2_5, .slice A2_8 K2_8.length c2_8] :: ((G2_2 ++ G2_5) ++ G2_8)) (by kernel_rfl)
     refine tree_next #[true, true, true, true, true, true, true, true, true, true, true, true, true, true, true] (by kernel_rfl) ?_
     exact treeE (by kernel_rfl) ⟨A2_2, A2_5, A2_8, G2_2, G2_5, G2_8, K2_2, K2_5, K2_8, c2_2, c2_5, c2_8, hK.sub ⟨rfl, rfl, rfl, trivial⟩, hM, hi2_2, hi2_5, hi2_8, hq2_2, hq2_5, hq2_8, hr2_2, hr2_5, hr2_8⟩
   ·refine stepLoad hK 15 (.slice s.A2 s.th.length s.c2) (by kernel_rfl) rfl rfl ((hM.row 1 rfl).cells 5 1) (by kernel_rfl) fun a hK => ?_
    refine tree_next #[true, false, false, true, true, false, true, true, false, false, false, false, false, false, false] (by kernel_rfl) ?_
    refine treeM [1] (by kernel_rfl) rfl ⟨?_, trivial⟩
    refine stepLoad hK 12 (.slice s.A1 s.es.length s.c1) (by kernel_rfl) rfl rfl ((hM.row 1 rfl).cells 4 1) (by kernel_rfl) fun a hK => ?_
    refine tree_next #[true, true, false, true, true, false, true, true, false, false, false, false, false, false, false] (by kernel_rfl) ?_
    refine treeM [2] (by kernel_rfl) rfl ⟨?_, trivial⟩
    refine stepCall hK hM 13 #[.slice s.A1 s.es.length s.c1, .func (.func 89) #[] #[]] (by kernel_rfl) (run_callE en_each_Expr rfl rfl (by kernel_rfl)) (ast_eachE s.es (fun x hx w1 h1 => ast_copyExpr x w1 h1 (exsSh_mem hssh.2.2.1 hx) (by have h8 := exsSz_mem hx; omega)) _ _ _ (hs.exprs.on hM.below) (by omega)) ?_
    rintro ⟨K2_2, A2_2, c2_2, G2_2⟩ a w ⟨hq2_2, hi2_2, hr2_2⟩ hK hM
    replace hM := (Mem.comm hM).to ((.row b2 30 [.int .i64 0, Str [], Str [], .int .i64 0, .slice none 0 0, .slice none 0 0, .slice none 0 0] :: .row b1 30 (cS s) :: G2_2)) (by kernel_rfl)
    refine tree_next #[true, true, true, true, true, false, true, true, false, false, false, false, false, false, false] (by kernel_rfl) ?_
    refine treeP hK 9 20 (pA b1 4) (by kernel_rfl) (by kernel_rfl) (by kernel_rfl) (fun w => (by kernel_rfl)) #[true, true, true, true, true, false, true, true, false, true, false, false, false, false, false] (by kernel_rfl) fun a hK => ?_
    refine treeM [5] (by kernel_rfl) rfl ⟨?_, trivial⟩
    refine stepCall hK hM 16 #[.slice s.A2 s.th.length s.c2] (by kernel_rfl) (run_callE en_ast_copyStmts rfl rfl (by kernel_rfl)) (h1 _ _ _ (hs.thn.on hM.below) (by omega)) ?_
    rintro ⟨K2_5, A2_5, c2_5, G2_5⟩ a w ⟨hq2_5, hi2_5, hr2_5⟩ hK hM
    replace hM := (Mem.comm hM).to ((.row b2 30 [.int .i64 0, Str [], Str [], .int .i64 0, .slice none 0 0, .slice none 0 0, .slice none 0 0] :: .row b1 30 (cS s) :: (G2_2 ++ G2_5))) (by kernel_rfl)
    refine tree_next #[true, true, true, true, true, true, true, true, false, true, false, false, false, false, false] (by kernel_rfl) ?_
    refine treeM [8] (by kernel_rfl) rfl ⟨?_, trivial⟩
    refine stepCall hK hM 19 #[.slice s.A3 s.el.length s.c3] (by kernel_rfl) (run_callE en_ast_copyStmts rfl rfl (by kernel_rfl)) (h2 _ _ _ (hs.els.on hM.below) (by omega)) ?_
    rintro ⟨K2_8, A2_8, c2_8, G2_8⟩ a w ⟨hq2_8, hi2_8, hr2_8⟩ hK hM
    replace hM := (Mem.comm hM).to ((.row b2 30 [.int .i64 0, Str [], Str [], .int .i64 0, .slice none 0 0, .slice none 0 0, .slice none 0 0] :: .row b1 30 (cS s) :: ((G2_2 ++ G2_5) ++ G2_8))) (by kernel_rfl)
    refine tree_next #[true, true, true, true, true, true, true, true, true, true, false, false, false, false, false] (by kernel_rfl) ?_
    refine treeM [10] (by kernel_rfl) rfl ⟨?_, trivial⟩
    refine stepStore hK hM 1 [.int .i64 s.kind, Str s.nm, Str s.loc, .int .i64 s.ord, .slice A2_2 K2_2.length c2_2, .slice s.A2 s.th.length s.c2, .slice s.A3 s.el.length s.c3] (by kernel_rfl) rfl rfl rfl rfl (by kernel_rfl) fun w hM => ?_
    replace hM := hM.to (.row b2 30 [.int .i64 0, Str [], Str [], .int .i64 0, .slice none 0 0, .slice none 0 0, .slice none 0 0] :: .row b1 30 [.int .i64 s.kind, Str s.nm, Str s.loc, .int .i64 s.ord, .slice A2_2 K2_2.length c2_2, .slice s.A2 s.th.length s.c2, .slice s.A3 s.el.length s.c3] :: ((G2_2 ++ G2_5) ++ G2_8)) (by kernel_rfl)
    refine tree_next #[true, true, true, true, true, true, true, true, true, true, true, false, false, false, false] (by kernel_rfl) ?_
    refine treeP hK 11 21 (pA b1 5) (by kernel_rfl) (by kernel_rfl) (by kernel_rfl) (fun w => (by kernel_rfl)) #[true, true, true, true, true, true, true, true, true, true, true, true, false, false, false] (by kernel_rfl) fun a hK => ?_
    refine treeM [12] (by kernel_rfl) rfl ⟨?_, trivial⟩
    refine stepStore hK hM 1 [.int .i64 s.kind, Str s.nm, Str s.loc, .int .i64 s.ord, .slice A2_2 K2_2.length c2_2, .slice A2_5 K2_5.length c2_5, .slice s.A3 s.el.length s.c3] (by kernel_rfl) rfl rfl rfl rfl (by kernel_rfl) fun w hM => ?_
    replace hM := hM.to (.row b2 30 [.int .i64 0, Str [], Str [], .int .i64 0, .slice none 0 0, .slice none 0 0, .slice none 0 0] :: .row b1 30 [.int .i64 s.kind, Str s.nm, Str s.loc, .int .i64 s.ord, .slice A2_2 K2_2.length c2_2, .slice A2_5 K2_5.length c2_5, .slice s.A3 s.el.length s.c3] :: ((G2_2 ++ G2_5) ++ G2_8)) (by kernel_rfl)
    refine tree_next #[true, true, true, true, true, true, true, true, true, true, true, true, true, false, false] (by kernel_rfl) ?_
    refine treeP hK 13 22 (pA b1 6) (by kernel_rfl) (by kernel_rfl) (by kernel_rfl) (fun w => (by kernel_rfl)) #[true, true, true, true, true, true, true, true, true, true, true, true, true, true, false] (by kernel_rfl) fun a hK => ?_
    refine treeM [14] (by kernel_rfl) rfl ⟨?_, trivial⟩
    refine stepStore hK hM 1 [.int .i64 s.kind, Str s.nm, Str s.loc, .int .i64 s.ord, .slice A2_2 K2_2.length c2_2, .slice A2_5 K2_5.length c2_5, .slice A2_8 K2_8.length c2_8] (by kernel_rfl) rfl rfl rfl rfl (by kernel_rfl) fun w hM => ?_
    replace hM := hM.to (.row b2 30 [.int .i64 0, Str [], Str [], .int .i64 0, .slice none 0 0, .slice none 0 0, .slice none 0 0] :: .row b1 30 [.int .i64 s.kind, Str s.nm, Str s.loc, .int .i64 s.ord, .slice A2_2 K2_2.length c2_2, .slice A2_5 K2_5.length c2_5, .slice A2_8 K2_8.length c2_8] :: ((G2_2 ++ G2_5) ++ G2_8)) (by kernel_rfl)
    refine tree_next #[true, true, true, true, true, true, true, true, true, true, true, true, true, true, true] (by kernel_rfl) ?_
    exact treeE (by kernel_rfl) ⟨A2_2, A2_5, A2_8, G2_2, G2_5, G2_8, K2_2, K2_5, K2_8, c2_2, c2_5, c2_8, hK.sub ⟨rfl, rfl, rfl, trivial⟩, hM, hi2_2, hi2_5, hi2_8, hq2_2, hq2_5, hq2_8, hr2_2, hr2_5, hr2_8⟩
 rintro a w ⟨A2_2, A2_5, A2_8, G2_2, G2_5, G2_8, K2_2, K2_5, K2_8, c2_2, c2_5, c2_8, hK, hM, hi2_2, hi2_5, hi2_8, hq2_2, hq2_5, hq2_8, hr2_2, hr2_5, hr2_8⟩
 refine wp_seq ?_
 refine region_go (lst := [0, 1]) (by kernel_rfl) ?_
 refine stepLoad hK 23 (.agg #[.int .i64 s.kind, Str s.nm, Str s.loc, .int .i64 s.ord, .slice A2_2 K2_2.length c2_2, .slice A2_5 K2_5.length c2_5, .slice A2_8 K2_8.length c2_8]) (by kernel_rfl) rfl rfl ((hM.row 1 rfl).cells 0 7) (by kernel_rfl) fun a hK => ?_
 refine stepStore hK hM 0 [.int .i64 s.kind, Str s.nm, Str s.loc, .int .i64 s.ord, .slice A2_2 K2_2.length c2_2, .slice A2_5 K2_5.length c2_5, .slice A2_8 K2_8.length c2_8] (by kernel_rfl) rfl rfl rfl rfl (by kernel_rfl) fun w hM => ?_
 replace hM := hM.to (.row b2 30 [.int .i64 s.kind, Str s.nm, Str s.loc, .int .i64 s.ord, .slice A2_2 K2_2.length c2_2, .slice A2_5 K2_5.length c2_5, .slice A2_8 K2_8.length c2_8] :: .row b1 30 [.int .i64 s.kind, Str s.nm, Str s.loc, .int .i64 s.ord, .slice A2_2 K2_2.length c2_2, .slice A2_5 K2_5.length c2_5, .slice A2_8 K2_8.length c2_8] :: ((G2_2 ++ G2_5) ++ G2_8)) (by kernel_rfl)
 refine region_done hK [(2, pA b2 0), (1, pA b1 0), (0, vS s)] ⟨rfl, rfl, rfl, trivial⟩ fun a hK => ?_
 refine wp_ret ?_
 exact ret_c hK rfl rfl ((hM.row 0 rfl).cells 0 7) (u := (.agg #[.int .i64 s.kind, Str s.nm, Str s.loc, .int .i64 s.ord, .slice A2_2 K2_2.length c2_2, .slice A2_5 K2_5.length c2_5, .slice A2_8 K2_8.length c2_8])) (by kernel_rfl) (⟨(.mk s.kind s.nm s.loc s.ord A2_2 c2_2 K2_2 A2_5 c2_5 K2_5 A2_8 c2_8 K2_8, ((G2_2 ++ G2_5) ++ G2_8)), rfl, hM.drop 2, same_mkS hq2_2 hq2_5 hq2_8, rows_mkS ⟨hssh.1, hssh.2.1⟩ ⟨by omega, by omega, by omega⟩ hq2_2 hq2_5 hq2_8 hi2_2 hr2_2 hi2_5 hr2_5 hi2_8 hr2_8 (fun it hi => by simp [hi]) (fun it hi => by simp [hi]) (fun it hi => by simp [hi])⟩)
end Go.Proofs.YtiigncmpbkfhmaaDoor
