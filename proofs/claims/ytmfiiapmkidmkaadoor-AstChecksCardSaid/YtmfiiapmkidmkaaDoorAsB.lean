/-
 The kit's measure of trees: what is left of a weight.
-/
import Derived.Test.YtmfiiapmkidmkaaDoorAsA
namespace Go.Proofs.YtmfiiapmkidmkaaDoor
open Go Go.RowKit

theorem en_cantileverkit_heft : Enters Tryd.prog 38 := enters_of Tryd.func38 (by kernel_rfl) rfl
theorem en_cantileverkit_hefts : Enters Tryd.prog 37 := enters_of Tryd.func37 (by kernel_rfl) rfl
theorem en_cantileverkit_Light : Enters Tryd.prog 13 := enters_of Tryd.func13 (by kernel_rfl) rfl
set_option maxRecDepth 100000 in
set_option maxHeartbeats 4000000 in
theorem kit_heft (e : Ex) : ∀ (n : Int) (w0 : World), ExAt w0 e → 0 ≤ n → n ≤ 1000000 → Calls Tryd.prog 38 #[.agg #[.int .i64 e.op, .int .i64 e.num, Str e.nm, .slice e.A e.ks.length e.c], .int .i64 n] w0 (Ret w0 (.int .i64 (e.hf n))) := by
 induction e using Ex.rec_on
 rename_i e ih
 intro n w0 he hn0 hn1
 have hln := he.len
 refine calls_K (args := [.agg #[.int .i64 e.op, .int .i64 e.num, Str e.nm, .slice e.A e.ks.length e.c], .int .i64 n]) (n := 32) (env := [(0, .agg #[.int .i64 e.op, .int .i64 e.num, Str e.nm, .slice e.A e.ks.length e.c]), (1, .int .i64 n)]) Tryd.func38 rfl rfl rfl ⟨rfl, rfl, trivial⟩ fun a w hK hM => ?_
 refine wp_seq ?_
 refine region_go (lst := [0, 1]) (by kernel_rfl) ?_
 refine stepAlloc hK hM 2 36 [.int .i64 e.op, .int .i64 e.num, Str e.nm, .slice e.A e.ks.length e.c] (fun b => .pointer (some ⟨b, 0, none⟩)) (by kernel_rfl) (by kernel_rfl) fun b1 a w hK hM => ?_
 refine stepP hK 4 (.int .i64 0) (by kernel_rfl) (by kernel_rfl) fun a hK => ?_
 refine region_done hK [(4, .int .i64 0), (2, .pointer (some ⟨b1, 0, none⟩)), (0, .agg #[.int .i64 e.op, .int .i64 e.num, Str e.nm, .slice e.A e.ks.length e.c]), (1, .int .i64 n)] ⟨rfl, rfl, rfl, rfl, trivial⟩ fun a hK => ?_
 refine wp_seq ?_
 refine region_go (lst := [0, 1, 2, 3, 4, 5, 6, 7]) (by kernel_rfl) ?_
 refine stepM hK 6 1 (by kernel_rfl) (.inl rfl) rfl fun a hK => ?_
 refine stepP hK 7 (.int .i64 (n - 1)) (by kernel_rfl) (run_subZ rfl rfl rfl (by omega) (by omega)) fun a hK => ?_
 refine stepP hK 8 (.pointer (some ⟨b1, 2, none⟩)) (by kernel_rfl) (by kernel_rfl) fun a hK => ?_
 refine stepLoad hK 9 (Str e.nm) (by kernel_rfl) rfl rfl ((hM.row 0 rfl).cells 2 1) (by kernel_rfl) fun a hK => ?_
 refine stepP hK 10 (.int .i64 ((e.nm.length : Nat) : Int)) (by kernel_rfl) (by kernel_rfl) fun a hK => ?_
 refine stepP hK 11 (.int .i64 (((e.nm.length / 20) : Nat) : Int)) (by kernel_rfl) (run_quoN (i := e.nm.length) (j := 20) rfl rfl rfl (by decide) (by omega)) fun a hK => ?_
 refine stepP hK 12 (.int .i64 ((n - 1) - (((e.nm.length / 20) : Nat) : Int))) (by kernel_rfl) (run_subZ rfl rfl rfl (by omega) (by omega)) fun a hK => ?_
 refine stepM hK 1 12 (by kernel_rfl) (.inr rfl) rfl fun a hK => ?_
 refine region_done hK [(1, .int .i64 ((n - 1) - (((e.nm.length / 20) : Nat) : Int))), (4, .int .i64 0), (2, .pointer (some ⟨b1, 0, none⟩)), (0, .agg #[.int .i64 e.op, .int .i64 e.num, Str e.nm, .slice e.A e.ks.length e.c])] ⟨rfl, rfl, rfl, rfl, trivial⟩ fun a hK => ?_
 refine wp_seq ?_
 refine wp_seq ?_
 refine region_go (lst := [0]) (by kernel_rfl) ?_
 refine stepP hK 5 (.int .i64 0) (by kernel_rfl) (by kernel_rfl) fun a hK => ?_
 refine region_done hK [(5, .int .i64 0), (1, .int .i64 ((n - 1) - (((e.nm.length / 20) : Nat) : Int))), (4, .int .i64 0), (2, .pointer (some ⟨b1, 0, none⟩)), (0, .agg #[.int .i64 e.op, .int .i64 e.num, Str e.nm, .slice e.A e.ks.length e.c])] ⟨rfl, rfl, rfl, rfl, rfl, trivial⟩ fun a hK => ?_
 refine wp_block ?_
 refine wp_loopX (fun x : Nat × Int => [(4, .int .i64 0), (2, .pointer (some ⟨b1, 0, none⟩)), (0, .agg #[.int .i64 e.op, .int .i64 e.num, Str e.nm, .slice e.A e.ks.length e.c]), (5, .int .i64 ((x.1 : Nat) : Int)), (1, .int .i64 x.2)]) (fun x : Nat × Int => [.row b1 36 [.int .i64 e.op, .int .i64 e.num, Str e.nm, .slice e.A e.ks.length e.c]]) (fun x : Nat × Int => x.1 ≤ e.ks.length ∧ exsHf (e.ks.drop x.1) x.2 = e.hf n ∧ x.2 ≤ 1000000) (fun x : Nat × Int => e.ks.length - x.1) (0, ((n - 1) - (((e.nm.length / 20) : Nat) : Int))) (hK.sub ⟨rfl, rfl, rfl, rfl, rfl, trivial⟩) hM ⟨Nat.zero_le _, by rw [List.drop_zero, hf_eq], by omega⟩ ?_
 rintro ⟨i, v⟩ a w hK hM hR
 replace hK : Knows a 32 [(4, .int .i64 0), (2, .pointer (some ⟨b1, 0, none⟩)), (0, .agg #[.int .i64 e.op, .int .i64 e.num, Str e.nm, .slice e.A e.ks.length e.c]), (5, .int .i64 ((i : Nat) : Int)), (1, .int .i64 v)] := hK
 replace hM : Mem w0 w [.row b1 36 [.int .i64 e.op, .int .i64 e.num, Str e.nm, .slice e.A e.ks.length e.c]] := hM
 replace hR : i ≤ e.ks.length ∧ exsHf (e.ks.drop i) v = e.hf n ∧ v ≤ 1000000 := hR
 refine wp_seq ?_
 refine wp_seq ?_
 refine region_go (lst := [0, 1, 2, 3, 4, 5, 6, 7, 8]) (by kernel_rfl) ?_
 refine stepM hK 13 5 (by kernel_rfl) (.inl rfl) rfl fun a hK => ?_
 refine stepP hK 14 (.pointer (some ⟨b1, 3, none⟩)) (by kernel_rfl) (by kernel_rfl) fun a hK => ?_
 refine stepLoad hK 15 (.slice e.A e.ks.length e.c) (by kernel_rfl) rfl rfl ((hM.row 0 rfl).cells 3 1) (by kernel_rfl) fun a hK => ?_
 refine stepP hK 16 (.int .i64 ((e.ks.length : Nat) : Int)) (by kernel_rfl) (by kernel_rfl) fun a hK => ?_
 by_cases h2 : (((i : Nat) : Int) : Int) < ((e.ks.length : Nat) : Int)
 ·refine stepP hK 17 (.bool true) (by kernel_rfl) (okBool (b := (decide ((((i : Nat) : Int) : Int) < ((e.ks.length : Nat) : Int)))) (by kernel_rfl) (decide_eq_true h2)) fun a hK => ?_
  refine stepM hK 18 17 (by kernel_rfl) (.inl rfl) rfl fun a hK => ?_
  refine stepM hK 19 1 (by kernel_rfl) (.inl rfl) rfl fun a hK => ?_
  by_cases h3 : (0 : Int) ≤ v
  ·refine stepP hK 20 (.bool true) (by kernel_rfl) (okBool (b := (decide ((0 : Int) ≤ v))) (by kernel_rfl) (decide_eq_true h3)) fun a hK => ?_
   refine stepP hK 21 (.bool true) (by kernel_rfl) (by kernel_rfl) fun a hK => ?_
   refine region_done hK [(21, .bool true), (4, .int .i64 0), (2, .pointer (some ⟨b1, 0, none⟩)), (0, .agg #[.int .i64 e.op, .int .i64 e.num, Str e.nm, .slice e.A e.ks.length e.c]), (5, .int .i64 ((i : Nat) : Int)), (1, .int .i64 v)] ⟨rfl, rfl, rfl, rfl, rfl, rfl, trivial⟩ fun a hK => ?_
   refine wp_cond_true (hK.get rfl) ?_
   refine wp_skip ?_
   refine wp_seq ?_
   refine wp_block ?_
   refine region_go (lst := [0, 1, 2, 3, 4, 5, 6, 7]) (by kernel_rfl) ?_
   refine stepP hK 24 (.pointer (some ⟨b1, 3, none⟩)) (by kernel_rfl) (by kernel_rfl) fun a hK => ?_
   refine stepLoad hK 25 (.slice e.A e.ks.length e.c) (by kernel_rfl) rfl rfl ((hM.row 0 rfl).cells 3 1) (by kernel_rfl) fun a hK => ?_
   refine stepM hK 26 5 (by kernel_rfl) (.inl rfl) rfl fun a hK => ?_
   obtain ⟨t4, ht4⟩ : ∃ t, e.ks[(i : Nat)]? = some t := ⟨_, List.getElem?_eq_getElem (by omega)⟩
   obtain ⟨⟨at4, At4, ct4⟩, et4⟩ := he.kids _ _ ht4; have nt4 := et4.len
   refine stepP hK 27 (.pointer (some (at4.add (i * 4)))) (by kernel_rfl) (run_ixA (k := i) (s := 4) rfl rfl At4 rfl Tryd.underlying27 (by kernel_rfl) (by omega)) fun a hK => ?_
   refine stepLoad hK 28 (.agg #[.int .i64 t4.op, .int .i64 t4.num, Str t4.nm, .slice t4.A t4.ks.length t4.c]) (by kernel_rfl) rfl rfl ((ct4.on hM.below)) (by kernel_rfl) fun a hK => ?_
   refine stepM hK 29 1 (by kernel_rfl) (.inl rfl) rfl fun a hK => ?_
   refine stepRet hK hM 30 #[.agg #[.int .i64 t4.op, .int .i64 t4.num, Str t4.nm, .slice t4.A t4.ks.length t4.c], .int .i64 v] (.int .i64 (t4.hf v)) (by kernel_rfl) (run_callE en_cantileverkit_heft rfl rfl (by kernel_rfl)) (ih t4 (List.mem_of_getElem? ht4) v _ (et4.on hM.below) (by omega) (by omega)) fun a w hK hM => ?_
   refine stepM hK 1 30 (by kernel_rfl) (.inr rfl) rfl fun a hK => ?_
   refine region_done hK [(1, .int .i64 (t4.hf v)), (21, .bool true), (4, .int .i64 0), (2, .pointer (some ⟨b1, 0, none⟩)), (0, .agg #[.int .i64 e.op, .int .i64 e.num, Str e.nm, .slice e.A e.ks.length e.c]), (5, .int .i64 ((i : Nat) : Int))] ⟨rfl, rfl, rfl, rfl, rfl, rfl, trivial⟩ fun a hK => ?_
   refine region_go (lst := [0, 1, 2]) (by kernel_rfl) ?_
   refine stepM hK 22 5 (by kernel_rfl) (.inl rfl) rfl fun a hK => ?_
   refine stepP hK 23 (.int .i64 (((i + 1) : Nat) : Int)) (by kernel_rfl) (run_addN (i := i) (j := 1) rfl rfl rfl (by omega)) fun a hK => ?_
   refine stepM hK 5 23 (by kernel_rfl) (.inr rfl) rfl fun a hK => ?_
   refine region_done hK [(5, .int .i64 (((i + 1) : Nat) : Int)), (1, .int .i64 (t4.hf v)), (21, .bool true), (4, .int .i64 0), (2, .pointer (some ⟨b1, 0, none⟩)), (0, .agg #[.int .i64 e.op, .int .i64 e.num, Str e.nm, .slice e.A e.ks.length e.c])] ⟨rfl, rfl, rfl, rfl, rfl, rfl, trivial⟩ fun a hK => ?_
   have hRn : (i + 1) ≤ e.ks.length ∧ exsHf (e.ks.drop (i + 1)) ((t4.hf v)) = e.hf n ∧ ((t4.hf v)) ≤ 1000000 := ⟨by omega, by rw [← exsHf_step ht4 (by omega)]; exact hR.2.1, by have h1 := hf_sz t4 v; omega⟩
   have hmn : e.ks.length - (i + 1) < e.ks.length - i := by omega
   exact ⟨(i + 1, (t4.hf v)), hK.sub ⟨rfl, rfl, rfl, rfl, rfl, trivial⟩, hM, hRn, hmn⟩
  ·refine stepP hK 20 (.bool false) (by kernel_rfl) (okBool (b := (decide ((0 : Int) ≤ v))) (by kernel_rfl) (decide_eq_false h3)) fun a hK => ?_
   refine stepP hK 21 (.bool false) (by kernel_rfl) (by kernel_rfl) fun a hK => ?_
   refine region_done hK [(21, .bool false), (4, .int .i64 0), (2, .pointer (some ⟨b1, 0, none⟩)), (0, .agg #[.int .i64 e.op, .int .i64 e.num, Str e.nm, .slice e.A e.ks.length e.c]), (5, .int .i64 ((i : Nat) : Int)), (1, .int .i64 v)] ⟨rfl, rfl, rfl, rfl, rfl, rfl, trivial⟩ fun a hK => ?_
   refine wp_cond_false (hK.get rfl) ?_
   refine wp_exit (exit_then (exit_then (exit_here 0 ?_)))
   refine wp_seq ?_
   refine region_go (lst := [0, 1]) (by kernel_rfl) ?_
   refine stepM hK 31 1 (by kernel_rfl) (.inl rfl) rfl fun a hK => ?_
   refine stepM hK 4 31 (by kernel_rfl) (.inr rfl) rfl fun a hK => ?_
   refine region_done hK [(4, .int .i64 v), (21, .bool false), (2, .pointer (some ⟨b1, 0, none⟩)), (0, .agg #[.int .i64 e.op, .int .i64 e.num, Str e.nm, .slice e.A e.ks.length e.c]), (5, .int .i64 ((i : Nat) : Int)), (1, .int .i64 v)] ⟨rfl, rfl, rfl, rfl, rfl, rfl, trivial⟩ fun a hK => ?_
   refine wp_ret ?_
   exact ret_t hK rfl (u := (.int .i64 v)) rfl (⟨by rw [← hR.2.1]; first | rw [exsHf_neg _ (by omega)] | (rw [List.drop_of_length_le (by omega), exsHf]), hM.below⟩)
 ·refine stepP hK 17 (.bool false) (by kernel_rfl) (okBool (b := (decide ((((i : Nat) : Int) : Int) < ((e.ks.length : Nat) : Int)))) (by kernel_rfl) (decide_eq_false h2)) fun a hK => ?_
  refine stepM hK 18 17 (by kernel_rfl) (.inl rfl) rfl fun a hK => ?_
  refine stepN hK 19 (by kernel_rfl) fun a hK => ?_
  refine stepN hK 20 (by kernel_rfl) fun a hK => ?_
  refine stepP hK 21 (.bool false) (by kernel_rfl) (by kernel_rfl) fun a hK => ?_
  refine region_done hK [(21, .bool false), (4, .int .i64 0), (2, .pointer (some ⟨b1, 0, none⟩)), (0, .agg #[.int .i64 e.op, .int .i64 e.num, Str e.nm, .slice e.A e.ks.length e.c]), (5, .int .i64 ((i : Nat) : Int)), (1, .int .i64 v)] ⟨rfl, rfl, rfl, rfl, rfl, rfl, trivial⟩ fun a hK => ?_
  refine wp_cond_false (hK.get rfl) ?_
  refine wp_exit (exit_then (exit_then (exit_here 0 ?_)))
  refine wp_seq ?_
  refine region_go (lst := [0, 1]) (by kernel_rfl) ?_
  refine stepM hK 31 1 (by kernel_rfl) (.inl rfl) rfl fun a hK => ?_
  refine stepM hK 4 31 (by kernel_rfl) (.inr rfl) rfl fun a hK => ?_
  refine region_done hK [(4, .int .i64 v), (21, .bool false), (2, .pointer (some ⟨b1, 0, none⟩)), (0, .agg #[.int .i64 e.op, .int .i64 e.num, Str e.nm, .slice e.A e.ks.length e.c]), (5, .int .i64 ((i : Nat) : Int)), (1, .int .i64 v)] ⟨rfl, rfl, rfl, rfl, rfl, rfl, trivial⟩ fun a hK => ?_
  refine wp_ret ?_
  exact ret_t hK rfl (u := (.int .i64 v)) rfl (⟨by rw [← hR.2.1]; first | rw [exsHf_neg _ (by omega)] | (rw [List.drop_of_length_le (by omega), exsHf]), hM.below⟩)
set_option maxRecDepth 100000 in
set_option maxHeartbeats 4000000 in
theorem kit_hefts (l : List Sm) : ∀ (A : Option Addr) (c : Nat) (n : Int) (w0 : World), SmsAt w0 A l → l.length ≤ 9223372036854775807 → 0 ≤ n → n ≤ 1000000 → Calls Tryd.prog 37 #[.slice A l.length c, .int .i64 n] w0 (Ret w0 (.int .i64 (smsHf l n))) := by
 induction l using sms_rec
 rename_i l ih
 intro A c n w0 hl hln hn0 hn1
 refine calls_K (args := [.slice A l.length c, .int .i64 n]) (n := 78) (env := [(0, .slice A l.length c), (1, .int .i64 n)]) Tryd.func37 rfl rfl rfl ⟨rfl, rfl, trivial⟩ fun a w hK hM => ?_
 refine wp_seq ?_
 refine region_go (lst := [0]) (by kernel_rfl) ?_
 refine stepP hK 4 (.int .i64 0) (by kernel_rfl) (by kernel_rfl) fun a hK => ?_
 refine region_done hK [(4, .int .i64 0), (0, .slice A l.length c), (1, .int .i64 n)] ⟨rfl, rfl, rfl, trivial⟩ fun a hK => ?_
 refine wp_seq ?_
 refine wp_seq ?_
 refine region_go (lst := [0]) (by kernel_rfl) ?_
 refine stepP hK 5 (.int .i64 0) (by kernel_rfl) (by kernel_rfl) fun a hK => ?_
 refine region_done hK [(5, .int .i64 0), (4, .int .i64 0), (0, .slice A l.length c), (1, .int .i64 n)] ⟨rfl, rfl, rfl, rfl, trivial⟩ fun a hK => ?_
 refine wp_block ?_
 refine wp_loopX (fun x : Nat × Int => [(4, .int .i64 0), (0, .slice A l.length c), (5, .int .i64 ((x.1 : Nat) : Int)), (1, .int .i64 x.2)]) (fun x : Nat × Int => []) (fun x : Nat × Int => x.1 ≤ l.length ∧ smsHf (l.drop x.1) x.2 = smsHf l n ∧ x.2 ≤ 1000000) (fun x : Nat × Int => l.length - x.1) (0, n) (hK.sub ⟨rfl, rfl, rfl, rfl, trivial⟩) hM ⟨Nat.zero_le _, rfl, hn1⟩ ?_
 rintro ⟨i, v⟩ a w hK hM hR
 replace hK : Knows a 78 [(4, .int .i64 0), (0, .slice A l.length c), (5, .int .i64 ((i : Nat) : Int)), (1, .int .i64 v)] := hK
 replace hM : Mem w0 w [] := hM
 replace hR : i ≤ l.length ∧ smsHf (l.drop i) v = smsHf l n ∧ v ≤ 1000000 := hR
 refine wp_seq ?_
 refine wp_seq ?_
 refine region_go (lst := [0, 1, 2, 3, 4, 5, 6, 7]) (by kernel_rfl) ?_
 refine stepM hK 7 5 (by kernel_rfl) (.inl rfl) rfl fun a hK => ?_
 refine stepM hK 8 0 (by kernel_rfl) (.inl rfl) rfl fun a hK => ?_
 refine stepP hK 9 (.int .i64 ((l.length : Nat) : Int)) (by kernel_rfl) (by kernel_rfl) fun a hK => ?_
 by_cases h1 : (((i : Nat) : Int) : Int) < ((l.length : Nat) : Int)
 ·refine stepP hK 10 (.bool true) (by kernel_rfl) (okBool (b := (decide ((((i : Nat) : Int) : Int) < ((l.length : Nat) : Int)))) (by kernel_rfl) (decide_eq_true h1)) fun a hK => ?_
  refine stepM hK 11 10 (by kernel_rfl) (.inl rfl) rfl fun a hK => ?_
  refine stepM hK 12 1 (by kernel_rfl) (.inl rfl) rfl fun a hK => ?_
  by_cases h2 : (0 : Int) ≤ v
  ·refine stepP hK 13 (.bool true) (by kernel_rfl) (okBool (b := (decide ((0 : Int) ≤ v))) (by kernel_rfl) (decide_eq_true h2)) fun a hK => ?_
   refine stepP hK 14 (.bool true) (by kernel_rfl) (by kernel_rfl) fun a hK => ?_
   refine region_done hK [(14, .bool true), (4, .int .i64 0), (0, .slice A l.length c), (5, .int .i64 ((i : Nat) : Int)), (1, .int .i64 v)] ⟨rfl, rfl, rfl, rfl, rfl, trivial⟩ fun a hK => ?_
   refine wp_cond_true (hK.get rfl) ?_
   refine wp_skip ?_
   refine wp_seq ?_
   refine wp_block ?_
   refine wp_seq ?_
   obtain ⟨t3, ht3⟩ : ∃ t, l[(i : Nat)]? = some t := ⟨_, List.getElem?_eq_getElem (by omega)⟩
   obtain ⟨⟨at3, At3, ct3⟩, et3⟩ := hl _ _ ht3; have nt3 := et3.len
   refine region_made (F := fun w => Mem w0 w []) hK hM [.val (.int .i64 v), .val (.int .i64 (v - 1)), .val (.slice A l.length c), .val (.int .i64 ((i : Nat) : Int)), .val (.pointer (some (at3.add (i * 7)))), .val (.pointer (some ((at3.add (i * 7)).add 1))), .val (Str t3.nm), .val (.int .i64 ((t3.nm.length : Nat) : Int)), .val (.int .i64 (((t3.nm.length / 20) : Nat) : Int)), .val (.int .i64 ((v - 1) - (((t3.nm.length / 20) : Nat) : Int))), .val (.slice A l.length c), .val (.int .i64 ((i : Nat) : Int)), .val (.pointer (some (at3.add (i * 7)))), .val (.pointer (some ((at3.add (i * 7)).add 2))), .val (Str t3.loc), .val (.int .i64 ((t3.loc.length : Nat) : Int)), .val (.int .i64 (((t3.loc.length / 20) : Nat) : Int)), .val (.int .i64 (((v - 1) - (((t3.nm.length / 20) : Nat) : Int)) - (((t3.loc.length / 20) : Nat) : Int))), .val (.int .i64 (((v - 1) - (((t3.nm.length / 20) : Nat) : Int)) - (((t3.loc.length / 20) : Nat) : Int)))] 19 (fun _ h => h) (by kernel_rfl) (by kernel_rfl) ⟨⟨⟨⟨⟨⟨⟨⟨⟨⟨⟨⟨⟨⟨⟨⟨⟨⟨⟨trivial, ?_⟩, ?_⟩, ?_⟩, ?_⟩, ?_⟩, ?_⟩, ?_⟩, ?_⟩, ?_⟩, ?_⟩, ?_⟩, ?_⟩, ?_⟩, ?_⟩, ?_⟩, ?_⟩, ?_⟩, ?_⟩, ?_⟩ (fun β => [(1, .int .i64 (((v - 1) - (((t3.nm.length / 20) : Nat) : Int)) - (((t3.loc.length / 20) : Nat) : Int))), (14, .bool true), (4, .int .i64 0), (0, .slice A l.length c), (5, .int .i64 ((i : Nat) : Int))]) (fun β => by kernel_rfl) ?_
   ·exact .val (.int .i64 v) rfl (fun β => by kernel_rfl) (fun β w hM => (by kernel_rfl))
   ·exact .val (.int .i64 (v - 1)) rfl (fun β => by kernel_rfl) (fun β w hM => (run_subZ rfl rfl rfl (by omega) (by omega)))
   ·exact .val (.slice A l.length c) rfl (fun β => by kernel_rfl) (fun β w hM => (by kernel_rfl))
   ·exact .val (.int .i64 ((i : Nat) : Int)) rfl (fun β => by kernel_rfl) (fun β w hM => (by kernel_rfl))
   ·exact .val (.pointer (some (at3.add (i * 7)))) rfl (fun β => by kernel_rfl) (fun β w hM => (run_ixA (k := i) (s := 7) rfl rfl At3 rfl Tryd.underlying28 (by kernel_rfl) (by omega)))
   ·exact .val (.pointer (some ((at3.add (i * 7)).add 1))) rfl (fun β => by kernel_rfl) (fun β w hM => (by kernel_rfl))
   ·exact .val (Str t3.nm) rfl (fun β => by kernel_rfl) (fun β w hM => run_loadE rfl rfl (((ct3.on hM.below)).addA 1 1 (by decide)) (by kernel_rfl))
   ·exact .val (.int .i64 ((t3.nm.length : Nat) : Int)) rfl (fun β => by kernel_rfl) (fun β w hM => (by kernel_rfl))
   ·exact .val (.int .i64 (((t3.nm.length / 20) : Nat) : Int)) rfl (fun β => by kernel_rfl) (fun β w hM => (run_quoN (i := t3.nm.length) (j := 20) rfl rfl rfl (by decide) (by omega)))
   ·exact .val (.int .i64 ((v - 1) - (((t3.nm.length / 20) : Nat) : Int))) rfl (fun β => by kernel_rfl) (fun β w hM => (run_subZ rfl rfl rfl (by omega) (by omega)))
   ·exact .val (.slice A l.length c) rfl (fun β => by kernel_rfl) (fun β w hM => (by kernel_rfl))
   ·exact .val (.int .i64 ((i : Nat) : Int)) rfl (fun β => by kernel_rfl) (fun β w hM => (by kernel_rfl))
   ·exact .val (.pointer (some (at3.add (i * 7)))) rfl (fun β => by kernel_rfl) (fun β w hM => (run_ixA (k := i) (s := 7) rfl rfl At3 rfl Tryd.underlying28 (by kernel_rfl) (by omega)))
   ·exact .val (.pointer (some ((at3.add (i * 7)).add 2))) rfl (fun β => by kernel_rfl) (fun β w hM => (by kernel_rfl))
   ·exact .val (Str t3.loc) rfl (fun β => by kernel_rfl) (fun β w hM => run_loadE rfl rfl (((ct3.on hM.below)).addA 2 1 (by decide)) (by kernel_rfl))
   ·exact .val (.int .i64 ((t3.loc.length : Nat) : Int)) rfl (fun β => by kernel_rfl) (fun β w hM => (by kernel_rfl))
   ·exact .val (.int .i64 (((t3.loc.length / 20) : Nat) : Int)) rfl (fun β => by kernel_rfl) (fun β w hM => (run_quoN (i := t3.loc.length) (j := 20) rfl rfl rfl (by decide) (by omega)))
   ·exact .val (.int .i64 (((v - 1) - (((t3.nm.length / 20) : Nat) : Int)) - (((t3.loc.length / 20) : Nat) : Int))) rfl (fun β => by kernel_rfl) (fun β w hM => (run_subZ rfl rfl rfl (by omega) (by omega)))
   ·exact .val (.int .i64 (((v - 1) - (((t3.nm.length / 20) : Nat) : Int)) - (((t3.loc.length / 20) : Nat) : Int))) rfl (fun β => by kernel_rfl) (fun β w hM => (by kernel_rfl))
   intro β4 a w hK hM
   have hK2 := hK; have hM2 := hM; clear hK hM
   have hK : Knows a 78 [(1, .int .i64 (((v - 1) - (((t3.nm.length / 20) : Nat) : Int)) - (((t3.loc.length / 20) : Nat) : Int))), (14, .bool true), (4, .int .i64 0), (0, .slice A l.length c), (5, .int .i64 ((i : Nat) : Int))] := hK2
   have hM := hM2.to [] (by kernel_rfl)
   clear hK2 hM2
   refine wp_seq ?_
   refine wp_seq ?_
   refine region_go (lst := [0]) (by kernel_rfl) ?_
   refine stepP hK 6 (.int .i64 0) (by kernel_rfl) (by kernel_rfl) fun a hK => ?_
   refine region_done hK [(6, .int .i64 0), (1, .int .i64 (((v - 1) - (((t3.nm.length / 20) : Nat) : Int)) - (((t3.loc.length / 20) : Nat) : Int))), (14, .bool true), (4, .int .i64 0), (0, .slice A l.length c), (5, .int .i64 ((i : Nat) : Int))] ⟨rfl, rfl, rfl, rfl, rfl, rfl, trivial⟩ fun a hK => ?_
   refine wp_block ?_
   have hRo := hR
   refine wp_loopX (fun x : Nat × Int => [(14, .bool true), (4, .int .i64 0), (0, .slice A l.length c), (5, .int .i64 ((i : Nat) : Int)), (6, .int .i64 ((x.1 : Nat) : Int)), (1, .int .i64 x.2)]) (fun x : Nat × Int => []) (fun x : Nat × Int => x.1 ≤ t3.es.length ∧ exsHf (t3.es.drop x.1) x.2 = smHf1 t3 v ∧ x.2 ≤ 1000000) (fun x : Nat × Int => t3.es.length - x.1) (0, (((v - 1) - (((t3.nm.length / 20) : Nat) : Int)) - (((t3.loc.length / 20) : Nat) : Int))) (hK.sub ⟨rfl, rfl, rfl, rfl, rfl, rfl, trivial⟩) hM ⟨Nat.zero_le _, rfl, by omega⟩ ?_
   rintro ⟨k, v2⟩ a w hK hM hR
   replace hK : Knows a 78 [(14, .bool true), (4, .int .i64 0), (0, .slice A l.length c), (5, .int .i64 ((i : Nat) : Int)), (6, .int .i64 ((k : Nat) : Int)), (1, .int .i64 v2)] := hK
   replace hM : Mem w0 w [] := hM
   replace hR : k ≤ t3.es.length ∧ exsHf (t3.es.drop k) v2 = smHf1 t3 v ∧ v2 ≤ 1000000 := hR
   refine wp_seq ?_
   refine wp_seq ?_
   refine region_go (lst := [0, 1, 2, 3, 4, 5, 6, 7, 8, 9, 10, 11]) (by kernel_rfl) ?_
   refine stepM hK 35 6 (by kernel_rfl) (.inl rfl) rfl fun a hK => ?_
   refine stepM hK 36 0 (by kernel_rfl) (.inl rfl) rfl fun a hK => ?_
   refine stepM hK 37 5 (by kernel_rfl) (.inl rfl) rfl fun a hK => ?_
   refine stepP hK 38 (.pointer (some (at3.add (i * 7)))) (by kernel_rfl) (run_ixA (k := i) (s := 7) rfl rfl At3 rfl Tryd.underlying28 (by kernel_rfl) (by omega)) fun a hK => ?_
   refine stepP hK 39 (.pointer (some ((at3.add (i * 7)).add 4))) (by kernel_rfl) (by kernel_rfl) fun a hK => ?_
   refine stepLoad hK 40 (.slice t3.A1 t3.es.length t3.c1) (by kernel_rfl) rfl rfl (((ct3.on hM.below)).addA 4 1 (by decide)) (by kernel_rfl) fun a hK => ?_
   refine stepP hK 41 (.int .i64 ((t3.es.length : Nat) : Int)) (by kernel_rfl) (by kernel_rfl) fun a hK => ?_
   by_cases h5 : (((k : Nat) : Int) : Int) < ((t3.es.length : Nat) : Int)
   ·refine stepP hK 42 (.bool true) (by kernel_rfl) (okBool (b := (decide ((((k : Nat) : Int) : Int) < ((t3.es.length : Nat) : Int)))) (by kernel_rfl) (decide_eq_true h5)) fun a hK => ?_
    refine stepM hK 43 42 (by kernel_rfl) (.inl rfl) rfl fun a hK => ?_
    refine stepM hK 44 1 (by kernel_rfl) (.inl rfl) rfl fun a hK => ?_
    by_cases h6 : (0 : Int) ≤ v2
    ·refine stepP hK 45 (.bool true) (by kernel_rfl) (okBool (b := (decide ((0 : Int) ≤ v2))) (by kernel_rfl) (decide_eq_true h6)) fun a hK => ?_
     refine stepP hK 46 (.bool true) (by kernel_rfl) (by kernel_rfl) fun a hK => ?_
     refine region_done hK [(46, .bool true), (14, .bool true), (4, .int .i64 0), (0, .slice A l.length c), (5, .int .i64 ((i : Nat) : Int)), (6, .int .i64 ((k : Nat) : Int)), (1, .int .i64 v2)] ⟨rfl, rfl, rfl, rfl, rfl, rfl, rfl, trivial⟩ fun a hK => ?_
     refine wp_cond_true (hK.get rfl) ?_
     refine wp_skip ?_
     refine wp_seq ?_
     refine wp_block ?_
     refine region_go (lst := [0, 1, 2, 3, 4, 5, 6, 7, 8, 9, 10]) (by kernel_rfl) ?_
     refine stepM hK 49 0 (by kernel_rfl) (.inl rfl) rfl fun a hK => ?_
     refine stepM hK 50 5 (by kernel_rfl) (.inl rfl) rfl fun a hK => ?_
     refine stepP hK 51 (.pointer (some (at3.add (i * 7)))) (by kernel_rfl) (run_ixA (k := i) (s := 7) rfl rfl At3 rfl Tryd.underlying28 (by kernel_rfl) (by omega)) fun a hK => ?_
     refine stepP hK 52 (.pointer (some ((at3.add (i * 7)).add 4))) (by kernel_rfl) (by kernel_rfl) fun a hK => ?_
     refine stepLoad hK 53 (.slice t3.A1 t3.es.length t3.c1) (by kernel_rfl) rfl rfl (((ct3.on hM.below)).addA 4 1 (by decide)) (by kernel_rfl) fun a hK => ?_
     refine stepM hK 54 6 (by kernel_rfl) (.inl rfl) rfl fun a hK => ?_
     obtain ⟨t7, ht7⟩ : ∃ t, t3.es[(k : Nat)]? = some t := ⟨_, List.getElem?_eq_getElem (by omega)⟩
     obtain ⟨⟨at7, At7, ct7⟩, et7⟩ := et3.exprs _ _ ht7; have nt7 := et7.len
     refine stepP hK 55 (.pointer (some (at7.add (k * 4)))) (by kernel_rfl) (run_ixA (k := k) (s := 4) rfl rfl At7 rfl Tryd.underlying27 (by kernel_rfl) (by omega)) fun a hK => ?_
     refine stepLoad hK 56 (.agg #[.int .i64 t7.op, .int .i64 t7.num, Str t7.nm, .slice t7.A t7.ks.length t7.c]) (by kernel_rfl) rfl rfl ((ct7.on hM.below)) (by kernel_rfl) fun a hK => ?_
     refine stepM hK 57 1 (by kernel_rfl) (.inl rfl) rfl fun a hK => ?_
     refine stepRet hK hM 58 #[.agg #[.int .i64 t7.op, .int .i64 t7.num, Str t7.nm, .slice t7.A t7.ks.length t7.c], .int .i64 v2] (.int .i64 (t7.hf v2)) (by kernel_rfl) (run_callE en_cantileverkit_heft rfl rfl (by kernel_rfl)) (kit_heft t7 v2 _ (et7.on hM.below) (by omega) (by omega)) fun a w hK hM => ?_
     refine stepM hK 1 58 (by kernel_rfl) (.inr rfl) rfl fun a hK => ?_
     refine region_done hK [(1, .int .i64 (t7.hf v2)), (46, .bool true), (14, .bool true), (4, .int .i64 0), (0, .slice A l.length c), (5, .int .i64 ((i : Nat) : Int)), (6, .int .i64 ((k : Nat) : Int))] ⟨rfl, rfl, rfl, rfl, rfl, rfl, rfl, trivial⟩ fun a hK => ?_
     refine region_go (lst := [0, 1, 2]) (by kernel_rfl) ?_
     refine stepM hK 47 6 (by kernel_rfl) (.inl rfl) rfl fun a hK => ?_
     refine stepP hK 48 (.int .i64 (((k + 1) : Nat) : Int)) (by kernel_rfl) (run_addN (i := k) (j := 1) rfl rfl rfl (by omega)) fun a hK => ?_
     refine stepM hK 6 48 (by kernel_rfl) (.inr rfl) rfl fun a hK => ?_
     refine region_done hK [(6, .int .i64 (((k + 1) : Nat) : Int)), (1, .int .i64 (t7.hf v2)), (46, .bool true), (14, .bool true), (4, .int .i64 0), (0, .slice A l.length c), (5, .int .i64 ((i : Nat) : Int))] ⟨rfl, rfl, rfl, rfl, rfl, rfl, rfl, trivial⟩ fun a hK => ?_
     have hRn : (k + 1) ≤ t3.es.length ∧ exsHf (t3.es.drop (k + 1)) ((t7.hf v2)) = smHf1 t3 v ∧ ((t7.hf v2)) ≤ 1000000 := ⟨by omega, by rw [← exsHf_step ht7 (by omega)]; exact hR.2.1, by have h1 := hf_sz t7 v2; omega⟩
     have hmn : t3.es.length - (k + 1) < t3.es.length - k := by omega
     exact ⟨(k + 1, (t7.hf v2)), hK.sub ⟨rfl, rfl, rfl, rfl, rfl, rfl, trivial⟩, hM, hRn, hmn⟩
    ·refine stepP hK 45 (.bool false) (by kernel_rfl) (okBool (b := (decide ((0 : Int) ≤ v2))) (by kernel_rfl) (decide_eq_false h6)) fun a hK => ?_
     refine stepP hK 46 (.bool false) (by kernel_rfl) (by kernel_rfl) fun a hK => ?_
     refine region_done hK [(46, .bool false), (14, .bool true), (4, .int .i64 0), (0, .slice A l.length c), (5, .int .i64 ((i : Nat) : Int)), (6, .int .i64 ((k : Nat) : Int)), (1, .int .i64 v2)] ⟨rfl, rfl, rfl, rfl, rfl, rfl, rfl, trivial⟩ fun a hK => ?_
     refine wp_cond_false (hK.get rfl) ?_
     refine wp_exit (exit_then (exit_then (exit_here 2 ?_)))
     refine wp_seq ?_
     refine wp_seq ?_
     refine region_go (lst := [0, 1]) (by kernel_rfl) ?_
     refine stepM hK 59 1 (by kernel_rfl) (.inl rfl) rfl fun a hK => ?_
     refine stepP hK 60 (.bool false) (by kernel_rfl) (okBool (b := (decide ((0 : Int) ≤ v2))) (by kernel_rfl) (decide_eq_false h6)) fun a hK => ?_
     refine region_done hK [(60, .bool false), (46, .bool false), (14, .bool true), (4, .int .i64 0), (0, .slice A l.length c), (5, .int .i64 ((i : Nat) : Int)), (6, .int .i64 ((k : Nat) : Int)), (1, .int .i64 v2)] ⟨rfl, rfl, rfl, rfl, rfl, rfl, rfl, rfl, trivial⟩ fun a hK => ?_
     refine wp_cond_false (hK.get rfl) ?_
     refine wp_skip ?_
     refine wp_seq ?_
     refine region_go (lst := [0, 1]) (by kernel_rfl) ?_
     refine stepM hK 68 1 (by kernel_rfl) (.inl rfl) rfl fun a hK => ?_
     refine stepP hK 69 (.bool false) (by kernel_rfl) (okBool (b := (decide ((0 : Int) ≤ v2))) (by kernel_rfl) (decide_eq_false h6)) fun a hK => ?_
     refine region_done hK [(69, .bool false), (60, .bool false), (46, .bool false), (14, .bool true), (4, .int .i64 0), (0, .slice A l.length c), (5, .int .i64 ((i : Nat) : Int)), (6, .int .i64 ((k : Nat) : Int)), (1, .int .i64 v2)] ⟨rfl, rfl, rfl, rfl, rfl, rfl, rfl, rfl, rfl, trivial⟩ fun a hK => ?_
     refine wp_cond_false (hK.get rfl) ?_
     refine wp_skip ?_
     refine region_go (lst := [0, 1, 2]) (by kernel_rfl) ?_
     refine stepM hK 15 5 (by kernel_rfl) (.inl rfl) rfl fun a hK => ?_
     refine stepP hK 16 (.int .i64 (((i + 1) : Nat) : Int)) (by kernel_rfl) (run_addN (i := i) (j := 1) rfl rfl rfl (by omega)) fun a hK => ?_
     refine stepM hK 5 16 (by kernel_rfl) (.inr rfl) rfl fun a hK => ?_
     refine region_done hK [(5, .int .i64 (((i + 1) : Nat) : Int)), (69, .bool false), (60, .bool false), (46, .bool false), (14, .bool true), (4, .int .i64 0), (0, .slice A l.length c), (6, .int .i64 ((k : Nat) : Int)), (1, .int .i64 v2)] ⟨rfl, rfl, rfl, rfl, rfl, rfl, rfl, rfl, rfl, trivial⟩ fun a hK => ?_
     have e1 : v2 = smHf1 t3 v := by rw [← hR.2.1]; first | rw [exsHf_neg _ (by omega)] | (rw [List.drop_of_length_le (by omega), exsHf])
     have e2 : t3.hf v = v2 := by rw [sm_hf, show smHf2 t3 v = v2 by unfold smHf2; rw [← e1, if_neg (by omega)], if_neg (by omega)]
     have hRn : (i + 1) ≤ l.length ∧ smsHf (l.drop (i + 1)) v2 = smsHf l n ∧ v2 ≤ 1000000 := ⟨by omega, by rw [← e2, ← smsHf_step ht3 (by omega)]; exact hRo.2.1, by have h1 := smsHf_sz t3.th v2; have h2 := smsHf_sz t3.el (smsHf t3.th v2); omega⟩
     have hmn : l.length - (i + 1) < l.length - i := by omega
     exact ⟨(i + 1, v2), hK.sub ⟨rfl, rfl, rfl, rfl, trivial⟩, hM, hRn, hmn⟩
   ·refine stepP hK 42 (.bool false) (by kernel_rfl) (okBool (b := (decide ((((k : Nat) : Int) : Int) < ((t3.es.length : Nat) : Int)))) (by kernel_rfl) (decide_eq_false h5)) fun a hK => ?_
    refine stepM hK 43 42 (by kernel_rfl) (.inl rfl) rfl fun a hK => ?_
    refine stepN hK 44 (by kernel_rfl) fun a hK => ?_
    refine stepN hK 45 (by kernel_rfl) fun a hK => ?_
    refine stepP hK 46 (.bool false) (by kernel_rfl) (by kernel_rfl) fun a hK => ?_
    refine region_done hK [(46, .bool false), (14, .bool true), (4, .int .i64 0), (0, .slice A l.length c), (5, .int .i64 ((i : Nat) : Int)), (6, .int .i64 ((k : Nat) : Int)), (1, .int .i64 v2)] ⟨rfl, rfl, rfl, rfl, rfl, rfl, rfl, trivial⟩ fun a hK => ?_
    refine wp_cond_false (hK.get rfl) ?_
    refine wp_exit (exit_then (exit_then (exit_here 2 ?_)))
    refine wp_seq ?_
    refine wp_seq ?_
    refine region_go (lst := [0, 1]) (by kernel_rfl) ?_
    refine stepM hK 59 1 (by kernel_rfl) (.inl rfl) rfl fun a hK => ?_
    by_cases h8 : (0 : Int) ≤ v2
    ·refine stepP hK 60 (.bool true) (by kernel_rfl) (okBool (b := (decide ((0 : Int) ≤ v2))) (by kernel_rfl) (decide_eq_true h8)) fun a hK => ?_
     refine region_done hK [(60, .bool true), (46, .bool false), (14, .bool true), (4, .int .i64 0), (0, .slice A l.length c), (5, .int .i64 ((i : Nat) : Int)), (6, .int .i64 ((k : Nat) : Int)), (1, .int .i64 v2)] ⟨rfl, rfl, rfl, rfl, rfl, rfl, rfl, rfl, trivial⟩ fun a hK => ?_
     refine wp_cond_true (hK.get rfl) ?_
     refine region_go (lst := [0, 1, 2, 3, 4, 5, 6, 7]) (by kernel_rfl) ?_
     refine stepM hK 61 0 (by kernel_rfl) (.inl rfl) rfl fun a hK => ?_
     refine stepM hK 62 5 (by kernel_rfl) (.inl rfl) rfl fun a hK => ?_
     refine stepP hK 63 (.pointer (some (at3.add (i * 7)))) (by kernel_rfl) (run_ixA (k := i) (s := 7) rfl rfl At3 rfl Tryd.underlying28 (by kernel_rfl) (by omega)) fun a hK => ?_
     refine stepP hK 64 (.pointer (some ((at3.add (i * 7)).add 5))) (by kernel_rfl) (by kernel_rfl) fun a hK => ?_
     refine stepLoad hK 65 (.slice t3.A2 t3.th.length t3.c2) (by kernel_rfl) rfl rfl (((ct3.on hM.below)).addA 5 1 (by decide)) (by kernel_rfl) fun a hK => ?_
     refine stepM hK 66 1 (by kernel_rfl) (.inl rfl) rfl fun a hK => ?_
     refine stepRet hK hM 67 #[.slice t3.A2 t3.th.length t3.c2, .int .i64 v2] (.int .i64 (smsHf t3.th v2)) (by kernel_rfl) (run_callE en_cantileverkit_hefts rfl rfl (by kernel_rfl)) ((ih t3 (List.mem_of_getElem? ht3)).1 _ _ v2 _ (et3.thn.on hM.below) (by omega) (by omega) (by omega)) fun a w hK hM => ?_
     refine stepM hK 1 67 (by kernel_rfl) (.inr rfl) rfl fun a hK => ?_
     refine region_done hK [(1, .int .i64 (smsHf t3.th v2)), (60, .bool true), (46, .bool false), (14, .bool true), (4, .int .i64 0), (0, .slice A l.length c), (5, .int .i64 ((i : Nat) : Int)), (6, .int .i64 ((k : Nat) : Int))] ⟨rfl, rfl, rfl, rfl, rfl, rfl, rfl, rfl, trivial⟩ fun a hK => ?_
     refine wp_seq ?_
     refine region_go (lst := [0, 1]) (by kernel_rfl) ?_
     refine stepM hK 68 1 (by kernel_rfl) (.inl rfl) rfl fun a hK => ?_
     by_cases h9 : (0 : Int) ≤ (smsHf t3.th v2)
     ·refine stepP hK 69 (.bool true) (by kernel_rfl) (okBool (b := (decide ((0 : Int) ≤ (smsHf t3.th v2)))) (by kernel_rfl) (decide_eq_true h9)) fun a hK => ?_
      refine region_done hK [(69, .bool true), (1, .int .i64 (smsHf t3.th v2)), (60, .bool true), (46, .bool false), (14, .bool true), (4, .int .i64 0), (0, .slice A l.length c), (5, .int .i64 ((i : Nat) : Int)), (6, .int .i64 ((k : Nat) : Int))] ⟨rfl, rfl, rfl, rfl, rfl, rfl, rfl, rfl, rfl, trivial⟩ fun a hK => ?_
      refine wp_cond_true (hK.get rfl) ?_
      refine region_go (lst := [0, 1, 2, 3, 4, 5, 6, 7]) (by kernel_rfl) ?_
      refine stepM hK 70 0 (by kernel_rfl) (.inl rfl) rfl fun a hK => ?_
      refine stepM hK 71 5 (by kernel_rfl) (.inl rfl) rfl fun a hK => ?_
      refine stepP hK 72 (.pointer (some (at3.add (i * 7)))) (by kernel_rfl) (run_ixA (k := i) (s := 7) rfl rfl At3 rfl Tryd.underlying28 (by kernel_rfl) (by omega)) fun a hK => ?_
      refine stepP hK 73 (.pointer (some ((at3.add (i * 7)).add 6))) (by kernel_rfl) (by kernel_rfl) fun a hK => ?_
      refine stepLoad hK 74 (.slice t3.A3 t3.el.length t3.c3) (by kernel_rfl) rfl rfl (((ct3.on hM.below)).addA 6 1 (by decide)) (by kernel_rfl) fun a hK => ?_
      refine stepM hK 75 1 (by kernel_rfl) (.inl rfl) rfl fun a hK => ?_
      refine stepRet hK hM 76 #[.slice t3.A3 t3.el.length t3.c3, .int .i64 (smsHf t3.th v2)] (.int .i64 (smsHf t3.el (smsHf t3.th v2))) (by kernel_rfl) (run_callE en_cantileverkit_hefts rfl rfl (by kernel_rfl)) ((ih t3 (List.mem_of_getElem? ht3)).2 _ _ (smsHf t3.th v2) _ (et3.els.on hM.below) (by omega) (by omega) (by have h1 := smsHf_sz t3.th v2; omega)) fun a w hK hM => ?_
      refine stepM hK 1 76 (by kernel_rfl) (.inr rfl) rfl fun a hK => ?_
      refine region_done hK [(1, .int .i64 (smsHf t3.el (smsHf t3.th v2))), (69, .bool true), (60, .bool true), (46, .bool false), (14, .bool true), (4, .int .i64 0), (0, .slice A l.length c), (5, .int .i64 ((i : Nat) : Int)), (6, .int .i64 ((k : Nat) : Int))] ⟨rfl, rfl, rfl, rfl, rfl, rfl, rfl, rfl, rfl, trivial⟩ fun a hK => ?_
      refine region_go (lst := [0, 1, 2]) (by kernel_rfl) ?_
      refine stepM hK 15 5 (by kernel_rfl) (.inl rfl) rfl fun a hK => ?_
      refine stepP hK 16 (.int .i64 (((i + 1) : Nat) : Int)) (by kernel_rfl) (run_addN (i := i) (j := 1) rfl rfl rfl (by omega)) fun a hK => ?_
      refine stepM hK 5 16 (by kernel_rfl) (.inr rfl) rfl fun a hK => ?_
      refine region_done hK [(5, .int .i64 (((i + 1) : Nat) : Int)), (1, .int .i64 (smsHf t3.el (smsHf t3.th v2))), (69, .bool true), (60, .bool true), (46, .bool false), (14, .bool true), (4, .int .i64 0), (0, .slice A l.length c), (6, .int .i64 ((k : Nat) : Int))] ⟨rfl, rfl, rfl, rfl, rfl, rfl, rfl, rfl, rfl, trivial⟩ fun a hK => ?_
      have e1 : v2 = smHf1 t3 v := by rw [← hR.2.1]; first | rw [exsHf_neg _ (by omega)] | (rw [List.drop_of_length_le (by omega), exsHf])
      have e2 : t3.hf v = (smsHf t3.el (smsHf t3.th v2)) := by rw [sm_hf, show smHf2 t3 v = (smsHf t3.th v2) by unfold smHf2; rw [← e1, if_pos (by omega)], if_pos (by omega)]
      have hRn : (i + 1) ≤ l.length ∧ smsHf (l.drop (i + 1)) ((smsHf t3.el (smsHf t3.th v2))) = smsHf l n ∧ ((smsHf t3.el (smsHf t3.th v2))) ≤ 1000000 := ⟨by omega, by rw [← e2, ← smsHf_step ht3 (by omega)]; exact hRo.2.1, by have h1 := smsHf_sz t3.th v2; have h2 := smsHf_sz t3.el (smsHf t3.th v2); omega⟩
      have hmn : l.length - (i + 1) < l.length - i := by omega
      exact ⟨(i + 1, (smsHf t3.el (smsHf t3.th v2))), hK.sub ⟨rfl, rfl, rfl, rfl, trivial⟩, hM, hRn, hmn⟩
     ·refine stepP hK 69 (.bool false) (by kernel_rfl) (okBool (b := (decide ((0 : Int) ≤ (smsHf t3.th v2)))) (by kernel_rfl) (decide_eq_false h9)) fun a hK => ?_
      refine region_done hK [(69, .bool false), (1, .int .i64 (smsHf t3.th v2)), (60, .bool true), (46, .bool false), (14, .bool true), (4, .int .i64 0), (0, .slice A l.length c), (5, .int .i64 ((i : Nat) : Int)), (6, .int .i64 ((k : Nat) : Int))] ⟨rfl, rfl, rfl, rfl, rfl, rfl, rfl, rfl, rfl, trivial⟩ fun a hK => ?_
      refine wp_cond_false (hK.get rfl) ?_
      refine wp_skip ?_
      refine region_go (lst := [0, 1, 2]) (by kernel_rfl) ?_
      refine stepM hK 15 5 (by kernel_rfl) (.inl rfl) rfl fun a hK => ?_
      refine stepP hK 16 (.int .i64 (((i + 1) : Nat) : Int)) (by kernel_rfl) (run_addN (i := i) (j := 1) rfl rfl rfl (by omega)) fun a hK => ?_
      refine stepM hK 5 16 (by kernel_rfl) (.inr rfl) rfl fun a hK => ?_
      refine region_done hK [(5, .int .i64 (((i + 1) : Nat) : Int)), (69, .bool false), (1, .int .i64 (smsHf t3.th v2)), (60, .bool true), (46, .bool false), (14, .bool true), (4, .int .i64 0), (0, .slice A l.length c), (6, .int .i64 ((k : Nat) : Int))] ⟨rfl, rfl, rfl, rfl, rfl, rfl, rfl, rfl, rfl, trivial⟩ fun a hK => ?_
      have e1 : v2 = smHf1 t3 v := by rw [← hR.2.1]; first | rw [exsHf_neg _ (by omega)] | (rw [List.drop_of_length_le (by omega), exsHf])
      have e2 : t3.hf v = (smsHf t3.th v2) := by rw [sm_hf, show smHf2 t3 v = (smsHf t3.th v2) by unfold smHf2; rw [← e1, if_pos (by omega)], if_neg (by omega)]
      have hRn : (i + 1) ≤ l.length ∧ smsHf (l.drop (i + 1)) ((smsHf t3.th v2)) = smsHf l n ∧ ((smsHf t3.th v2)) ≤ 1000000 := ⟨by omega, by rw [← e2, ← smsHf_step ht3 (by omega)]; exact hRo.2.1, by have h1 := smsHf_sz t3.th v2; have h2 := smsHf_sz t3.el (smsHf t3.th v2); omega⟩
      have hmn : l.length - (i + 1) < l.length - i := by omega
      exact ⟨(i + 1, (smsHf t3.th v2)), hK.sub ⟨rfl, rfl, rfl, rfl, trivial⟩, hM, hRn, hmn⟩
    ·refine stepP hK 60 (.bool false) (by kernel_rfl) (okBool (b := (decide ((0 : Int) ≤ v2))) (by kernel_rfl) (decide_eq_false h8)) fun a hK => ?_
     refine region_done hK [(60, .bool false), (46, .bool false), (14, .bool true), (4, .int .i64 0), (0, .slice A l.length c), (5, .int .i64 ((i : Nat) : Int)), (6, .int .i64 ((k : Nat) : Int)), (1, .int .i64 v2)] ⟨rfl, rfl, rfl, rfl, rfl, rfl, rfl, rfl, trivial⟩ fun a hK => ?_
     refine wp_cond_false (hK.get rfl) ?_
     refine wp_skip ?_
     refine wp_seq ?_
     refine region_go (lst := [0, 1]) (by kernel_rfl) ?_
     refine stepM hK 68 1 (by kernel_rfl) (.inl rfl) rfl fun a hK => ?_
     refine stepP hK 69 (.bool false) (by kernel_rfl) (okBool (b := (decide ((0 : Int) ≤ v2))) (by kernel_rfl) (decide_eq_false h8)) fun a hK => ?_
     refine region_done hK [(69, .bool false), (60, .bool false), (46, .bool false), (14, .bool true), (4, .int .i64 0), (0, .slice A l.length c), (5, .int .i64 ((i : Nat) : Int)), (6, .int .i64 ((k : Nat) : Int)), (1, .int .i64 v2)] ⟨rfl, rfl, rfl, rfl, rfl, rfl, rfl, rfl, rfl, trivial⟩ fun a hK => ?_
     refine wp_cond_false (hK.get rfl) ?_
     refine wp_skip ?_
     refine region_go (lst := [0, 1, 2]) (by kernel_rfl) ?_
     refine stepM hK 15 5 (by kernel_rfl) (.inl rfl) rfl fun a hK => ?_
     refine stepP hK 16 (.int .i64 (((i + 1) : Nat) : Int)) (by kernel_rfl) (run_addN (i := i) (j := 1) rfl rfl rfl (by omega)) fun a hK => ?_
     refine stepM hK 5 16 (by kernel_rfl) (.inr rfl) rfl fun a hK => ?_
     refine region_done hK [(5, .int .i64 (((i + 1) : Nat) : Int)), (69, .bool false), (60, .bool false), (46, .bool false), (14, .bool true), (4, .int .i64 0), (0, .slice A l.length c), (6, .int .i64 ((k : Nat) : Int)), (1, .int .i64 v2)] ⟨rfl, rfl, rfl, rfl, rfl, rfl, rfl, rfl, rfl, trivial⟩ fun a hK => ?_
     have e1 : v2 = smHf1 t3 v := by rw [← hR.2.1]; first | rw [exsHf_neg _ (by omega)] | (rw [List.drop_of_length_le (by omega), exsHf])
     have e2 : t3.hf v = v2 := by rw [sm_hf, show smHf2 t3 v = v2 by unfold smHf2; rw [← e1, if_neg (by omega)], if_neg (by omega)]
     have hRn : (i + 1) ≤ l.length ∧ smsHf (l.drop (i + 1)) v2 = smsHf l n ∧ v2 ≤ 1000000 := ⟨by omega, by rw [← e2, ← smsHf_step ht3 (by omega)]; exact hRo.2.1, by have h1 := smsHf_sz t3.th v2; have h2 := smsHf_sz t3.el (smsHf t3.th v2); omega⟩
     have hmn : l.length - (i + 1) < l.length - i := by omega
     exact ⟨(i + 1, v2), hK.sub ⟨rfl, rfl, rfl, rfl, trivial⟩, hM, hRn, hmn⟩
  ·refine stepP hK 13 (.bool false) (by kernel_rfl) (okBool (b := (decide ((0 : Int) ≤ v))) (by kernel_rfl) (decide_eq_false h2)) fun a hK => ?_
   refine stepP hK 14 (.bool false) (by kernel_rfl) (by kernel_rfl) fun a hK => ?_
   refine region_done hK [(14, .bool false), (4, .int .i64 0), (0, .slice A l.length c), (5, .int .i64 ((i : Nat) : Int)), (1, .int .i64 v)] ⟨rfl, rfl, rfl, rfl, rfl, trivial⟩ fun a hK => ?_
   refine wp_cond_false (hK.get rfl) ?_
   refine wp_exit (exit_then (exit_then (exit_here 0 ?_)))
   refine wp_seq ?_
   refine region_go (lst := [0, 1]) (by kernel_rfl) ?_
   refine stepM hK 77 1 (by kernel_rfl) (.inl rfl) rfl fun a hK => ?_
   refine stepM hK 4 77 (by kernel_rfl) (.inr rfl) rfl fun a hK => ?_
   refine region_done hK [(4, .int .i64 v), (14, .bool false), (0, .slice A l.length c), (5, .int .i64 ((i : Nat) : Int)), (1, .int .i64 v)] ⟨rfl, rfl, rfl, rfl, rfl, trivial⟩ fun a hK => ?_
   refine wp_ret ?_
   exact ret_t hK rfl (u := (.int .i64 v)) rfl (⟨by rw [← hR.2.1]; first | rw [smsHf_neg _ (by omega)] | (rw [List.drop_of_length_le (by omega), smsHf]), hM.below⟩)
 ·refine stepP hK 10 (.bool false) (by kernel_rfl) (okBool (b := (decide ((((i : Nat) : Int) : Int) < ((l.length : Nat) : Int)))) (by kernel_rfl) (decide_eq_false h1)) fun a hK => ?_
  refine stepM hK 11 10 (by kernel_rfl) (.inl rfl) rfl fun a hK => ?_
  refine stepN hK 12 (by kernel_rfl) fun a hK => ?_
  refine stepN hK 13 (by kernel_rfl) fun a hK => ?_
  refine stepP hK 14 (.bool false) (by kernel_rfl) (by kernel_rfl) fun a hK => ?_
  refine region_done hK [(14, .bool false), (4, .int .i64 0), (0, .slice A l.length c), (5, .int .i64 ((i : Nat) : Int)), (1, .int .i64 v)] ⟨rfl, rfl, rfl, rfl, rfl, trivial⟩ fun a hK => ?_
  refine wp_cond_false (hK.get rfl) ?_
  refine wp_exit (exit_then (exit_then (exit_here 0 ?_)))
  refine wp_seq ?_
  refine region_go (lst := [0, 1]) (by kernel_rfl) ?_
  refine stepM hK 77 1 (by kernel_rfl) (.inl rfl) rfl fun a hK => ?_
  refine stepM hK 4 77 (by kernel_rfl) (.inr rfl) rfl fun a hK => ?_
  refine region_done hK [(4, .int .i64 v), (14, .bool false), (0, .slice A l.length c), (5, .int .i64 ((i : Nat) : Int)), (1, .int .i64 v)] ⟨rfl, rfl, rfl, rfl, rfl, trivial⟩ fun a hK => ?_
  refine wp_ret ?_
  exact ret_t hK rfl (u := (.int .i64 v)) rfl (⟨by rw [← hR.2.1]; first | rw [smsHf_neg _ (by omega)] | (rw [List.drop_of_length_le (by omega), smsHf]), hM.below⟩)
set_option maxRecDepth 100000 in
set_option maxHeartbeats 4000000 in
theorem kit_Light (e : Ex) (n : Int) (w0 : World) (he : ExAt w0 e) (hn0 : 0 ≤ n) (hn1 : n ≤ 1000000) : Calls Tryd.prog 13 #[.agg #[.int .i64 e.op, .int .i64 e.num, Str e.nm, .slice e.A e.ks.length e.c], .int .i64 n] w0 (Ret w0 (.bool (decide ((0 : Int) ≤ e.hf n)))) := by
 refine calls_K (args := [.agg #[.int .i64 e.op, .int .i64 e.num, Str e.nm, .slice e.A e.ks.length e.c], .int .i64 n]) (n := 9) (env := [(0, .agg #[.int .i64 e.op, .int .i64 e.num, Str e.nm, .slice e.A e.ks.length e.c]), (1, .int .i64 n)]) Tryd.func13 rfl rfl rfl ⟨rfl, rfl, trivial⟩ fun a w hK hM => ?_
 refine wp_seq ?_
 refine region_go (lst := [0, 1]) (by kernel_rfl) ?_
 refine stepAlloc hK hM 2 36 [.int .i64 e.op, .int .i64 e.num, Str e.nm, .slice e.A e.ks.length e.c] (fun b => .pointer (some ⟨b, 0, none⟩)) (by kernel_rfl) (by kernel_rfl) fun b1 a w hK hM => ?_
 refine stepP hK 4 (.bool false) (by kernel_rfl) (by kernel_rfl) fun a hK => ?_
 refine region_done hK [(4, .bool false), (2, .pointer (some ⟨b1, 0, none⟩)), (0, .agg #[.int .i64 e.op, .int .i64 e.num, Str e.nm, .slice e.A e.ks.length e.c]), (1, .int .i64 n)] ⟨rfl, rfl, rfl, rfl, trivial⟩ fun a hK => ?_
 refine wp_seq ?_
 refine region_go (lst := [0, 1, 2, 3, 4]) (by kernel_rfl) ?_
 refine stepLoad hK 5 (.agg #[.int .i64 e.op, .int .i64 e.num, Str e.nm, .slice e.A e.ks.length e.c]) (by kernel_rfl) rfl rfl ((hM.row 0 rfl).cells 0 4) (by kernel_rfl) fun a hK => ?_
 refine stepM hK 6 1 (by kernel_rfl) (.inl rfl) rfl fun a hK => ?_
 refine stepRet hK hM 7 #[.agg #[.int .i64 e.op, .int .i64 e.num, Str e.nm, .slice e.A e.ks.length e.c], .int .i64 n] (.int .i64 (e.hf n)) (by kernel_rfl) (run_callE en_cantileverkit_heft rfl rfl (by kernel_rfl)) (kit_heft e n _ (he.on hM.below) (by omega) (by omega)) fun a w hK hM => ?_
 by_cases h2 : (0 : Int) ≤ (e.hf n)
 ·refine stepP hK 8 (.bool true) (by kernel_rfl) (okBool (b := (decide ((0 : Int) ≤ (e.hf n)))) (by kernel_rfl) (decide_eq_true h2)) fun a hK => ?_
  refine stepM hK 4 8 (by kernel_rfl) (.inr rfl) rfl fun a hK => ?_
  refine region_done hK [(4, .bool true), (2, .pointer (some ⟨b1, 0, none⟩)), (0, .agg #[.int .i64 e.op, .int .i64 e.num, Str e.nm, .slice e.A e.ks.length e.c]), (1, .int .i64 n)] ⟨rfl, rfl, rfl, rfl, trivial⟩ fun a hK => ?_
  refine wp_ret ?_
  exact ret_t hK rfl (u := (.bool true)) rfl (⟨congrArg (fun b => Ending.returned (Value.bool b)) (decide_eq_true h2).symm, hM.below⟩)
 ·refine stepP hK 8 (.bool false) (by kernel_rfl) (okBool (b := (decide ((0 : Int) ≤ (e.hf n)))) (by kernel_rfl) (decide_eq_false h2)) fun a hK => ?_
  refine stepM hK 4 8 (by kernel_rfl) (.inr rfl) rfl fun a hK => ?_
  refine region_done hK [(4, .bool false), (2, .pointer (some ⟨b1, 0, none⟩)), (0, .agg #[.int .i64 e.op, .int .i64 e.num, Str e.nm, .slice e.A e.ks.length e.c]), (1, .int .i64 n)] ⟨rfl, rfl, rfl, rfl, trivial⟩ fun a hK => ?_
  refine wp_ret ?_
  exact ret_t hK rfl (u := (.bool false)) rfl (⟨congrArg (fun b => Ending.returned (Value.bool b)) (decide_eq_false h2).symm, hM.below⟩)
end Go.Proofs.YtmfiiapmkidmkaaDoor
