/-
  What AstCallsCard stands on, part 3.
-/
import Derived.Test.YtiigncmpbkfhmaaGreatDoorPk2
namespace Go.Proofs.YtiigncmpbkfhmaaGreatDoor
open Go Go.RowKit
theorem smsSz_one {l : List Sm} {x : Sm} (h : x ∈ l) : x.sz ≤ smsSz l := by
 induction l with
 | nil => cases h
 | cons y r ih =>
  rcases List.mem_cons.1 h with rfl | h
  ·rw [smsSz]; omega
  ·have := ih h; rw [smsSz]; omega
set_option maxRecDepth 100000 in
set_option maxHeartbeats 4000000 in
theorem ref_all (l : List Sm) : ∀ (A : Option Addr) (c : Nat) (w0 : World), SmsAt w0 A l → smsSz l ≤ 1000000 → Calls Tryz.prog 44 #[.slice A l.length c] w0 (GivesT w0 (smsRg l)) := by
 induction l using sms_rec
 rename_i l ih
 intro A c w0 hl hsz
 have hln := smsSz_len l
 refine calls_K (args := [.slice A l.length c]) (n := 63) (env := [(0, .slice A l.length c)]) Tryz.func44 rfl rfl rfl ⟨rfl, trivial⟩ fun a w hK hM => ?_
 refine wp_seq ?_
 refine rg1 (by kernel_rfl) ?_
 refine sP hK 2 (.slice none 0 0) (by kernel_rfl) (by kernel_rfl) fun a hK => ?_
 refine rps ?_
 refine wp_seq ?_
 refine rg1 (by kernel_rfl) ?_
 refine sP hK 3 (.slice none 0 0) (by kernel_rfl) (by kernel_rfl) fun a hK => ?_
 refine rps ?_
 refine wp_seq ?_
 refine wp_seq ?_
 replace hM := hM.cons (it := .own 9 1 (.slice none 0 0) 0 []) (World.ownsRow_nil _ _ _ _) (fun _ _ => .inl rfl)
 refine rg1 (by kernel_rfl) ?_
 refine sP hK 4 (.int .i64 0) (by kernel_rfl) (by kernel_rfl) fun a hK => ?_
 refine rps ?_
 refine wp_block ?_
 have hL9 : ([] : List (List UInt8)) = (smsRg (l.take 0)) := (by simp [smsRg])
 replace hM := hM.to ([.own 9 1 (.slice none ((smsRg (l.take 0))).length 0) ((smsRg (l.take 0))).length (((smsRg (l.take 0))).map Str)]) (by rw [← hL9]; rfl)
 replace hK : Knows a 63 [(4, .int .i64 0), (3, .slice none ((smsRg (l.take 0))).length 0), (2, .slice none 0 0), (0, .slice A l.length c)] := by rw [← hL9]; exact hK.sub ⟨rfl, rfl, rfl, rfl, trivial⟩
 clear hL9
 replace hM := hM
 replace hM := hM.to ([.own 9 1 (.slice none ((smsRg (l.take 0))).length 0) ((smsRg (l.take 0))).length (((smsRg (l.take 0))).map Str)]) (by kernel_rfl)
 refine wLX (fun x : Nat × (Option Addr) × Nat => [(2, .slice none 0 0), (0, .slice A l.length c), (4, .int .i64 ((x.1 : Nat) : Int)), (3, .slice x.2.1 ((smsRg (l.take x.1))).length x.2.2)]) (fun x : Nat × (Option Addr) × Nat => [.own 9 1 (.slice x.2.1 ((smsRg (l.take x.1))).length x.2.2) ((smsRg (l.take x.1))).length (((smsRg (l.take x.1))).map Str)]) (fun x : Nat × (Option Addr) × Nat => x.1 ≤ l.length) (fun x : Nat × (Option Addr) × Nat => l.length - x.1) (0, none, 0) (hK.sub ⟨rfl, rfl, rfl, rfl, trivial⟩) hM (Nat.zero_le _) ?_
 rintro ⟨i, A1, c1⟩ a w hK hM hR
 replace hK : Knows a 63 [(2, .slice none 0 0), (0, .slice A l.length c), (4, vN i), (3, .slice A1 ((smsRg (l.take i))).length c1)] := hK
 replace hM : Mem w0 w [.own 9 1 (.slice A1 ((smsRg (l.take i))).length c1) ((smsRg (l.take i))).length (((smsRg (l.take i))).map Str)] := hM
 replace hR : i ≤ l.length := hR
 refine wp_seq ?_
 refine wp_seq ?_
 refine rg4 (by kernel_rfl) ?_
 refine sM hK 6 4 (by kernel_rfl) (.inl rfl) rfl fun a hK => ?_
 refine sM hK 7 0 (by kernel_rfl) (.inl rfl) rfl fun a hK => ?_
 refine sP hK 8 (.int .i64 ((l.length : Nat) : Int)) (by kernel_rfl) (by kernel_rfl) fun a hK => ?_
 by_cases h1 : (((i : Nat) : Int) : Int) < ((l.length : Nat) : Int)
 ·refine sP hK 9 (.bool true) (by kernel_rfl) (oB (b := (decide ((((i : Nat) : Int) : Int) < ((l.length : Nat) : Int)))) (by kernel_rfl) (decide_eq_true h1)) fun a hK => ?_
  refine rps ?_
  refine wp_cond_true (hK.get rfl) ?_
  refine wp_skip ?_
  refine wp_seq ?_
  refine wp_block ?_
  refine wp_seq ?_
  refine wp_seq ?_
  refine rg6 (by kernel_rfl) ?_
  refine sM hK 12 0 (by kernel_rfl) (.inl rfl) rfl fun a hK => ?_
  refine sM hK 13 4 (by kernel_rfl) (.inl rfl) rfl fun a hK => ?_
  obtain ⟨t2, ht2⟩ : ∃ t, l[(i : Nat)]? = some t := ⟨_, List.getElem?_eq_getElem (by omega)⟩
  obtain ⟨⟨at2, At2, ct2⟩, et2⟩ := hl _ _ ht2; have nt2 := et2.len
  refine sP hK 14 (.pointer (some (at2.add (i * 7)))) (by kernel_rfl) (rX (k := i) (s := 7) rfl rfl At2 rfl Tryz.underlying38 (by kernel_rfl) (by omega)) fun a hK => ?_
  refine sP hK 15 (.pointer (some ((at2.add (i * 7)).add 1))) (by kernel_rfl) (by kernel_rfl) fun a hK => ?_
  refine sL hK 16 (Str t2.nm) (by kernel_rfl) rfl rfl (((ct2.on hM.below)).addA 1 1 (by decide)) (by kernel_rfl) fun a hK => ?_
  rcases Bool.eq_false_or_eq_true (!(decide (t2.nm = []))) with h3 | h3
  ·refine sP hK 17 (.bool true) (by kernel_rfl) (oB (b := (!(decide (t2.nm = [])))) (run_neS rfl rfl rfl) h3) fun a hK => ?_
   refine rps ?_
   refine wp_cond_true (hK.get rfl) ?_
   refine rg9 (by kernel_rfl) ?_
   refine sM hK 18 3 (by kernel_rfl) (.inl rfl) rfl fun a hK => ?_
   refine sM hK 19 0 (by kernel_rfl) (.inl rfl) rfl fun a hK => ?_
   refine sM hK 20 4 (by kernel_rfl) (.inl rfl) rfl fun a hK => ?_
   refine sP hK 21 (.pointer (some (at2.add (i * 7)))) (by kernel_rfl) (rX (k := i) (s := 7) rfl rfl At2 rfl Tryz.underlying38 (by kernel_rfl) (by omega)) fun a hK => ?_
   refine sP hK 22 (.pointer (some ((at2.add (i * 7)).add 1))) (by kernel_rfl) (by kernel_rfl) fun a hK => ?_
   refine sL hK 23 (Str t2.nm) (by kernel_rfl) rfl rfl (((ct2.on hM.below)).addA 1 1 (by decide)) (by kernel_rfl) fun a hK => ?_
   refine sA hK hM 24 9 [Str t2.nm] (fun b => .slice (some ⟨b, 0, none⟩) 1 1) (by kernel_rfl) (by kernel_rfl) fun b4 a w hK hM => ?_
   refine stepAppendS hK hM 25 1 (m := 1) (news := [Str t2.nm]) Tryz.underlying36 elem_str (by kernel_rfl) rfl rfl rfl rfl (row_src (hM.row 0 rfl)) rfl rfl (by have h1 := smsRg_sz (l.take i); have h2 := smsSz_le (l := l) (i := i); have h5 := base_one (p := t2.nm ≠ []) t2.nm; have h6 := sm_sz t2; have h7 := smsSz_one (List.mem_of_getElem? ht2); (try simp only [List.length_append]); omega) ?_
   intro v5 a w hK hM
   replace hM := hM.to ([.row b4 9 [Str t2.nm], .own 9 1 v5 (((smsRg (l.take i)) ++ [t2.nm])).length ((((smsRg (l.take i)) ++ [t2.nm])).map Str)]) (by rw [show (((smsRg (l.take i)) ++ [t2.nm])).length = (((smsRg (l.take i))).length + 1) by (simp <;> omega), show ((((smsRg (l.take i)) ++ [t2.nm])).map Str) = ((((smsRg (l.take i))).map Str) ++ [Str t2.nm]) by simp [List.map_drop, List.map_take]]; rfl)
   obtain ⟨A6, c7, rfl⟩ := own_is (f := Str) (l := ((smsRg (l.take i)) ++ [t2.nm])) (hM.own 1 rfl)
   refine sM hK 3 25 (by kernel_rfl) (.inr rfl) rfl fun a hK => ?_
   refine rps ?_
   refine wp_seq ?_
   refine wp_seq ?_
   refine rg1 (by kernel_rfl) ?_
   refine sP hK 5 (.int .i64 0) (by kernel_rfl) (by kernel_rfl) fun a hK => ?_
   refine rps ?_
   refine wp_block ?_
   have hL9 : ((smsRg (l.take i)) ++ [t2.nm]) = ((smsRg (l.take i) ++ (if t2.nm ≠ [] then [t2.nm] else [])) ++ exsRg (t2.es.take 0)) := (by have g0 := h3; simp only [Bool.not_eq_true', decide_eq_false_iff_not, Bool.not_eq_false', decide_eq_true_eq] at g0; simp [exsRg, g0])
   rw [hL9] at hM; try rw [hL9] at hK
   clear hL9
   replace hM := hM.to ([.row b4 9 [Str t2.nm], .own 9 1 (.slice A6 (((smsRg (l.take i) ++ (if t2.nm ≠ [] then [t2.nm] else [])) ++ exsRg (t2.es.take 0))).length c7) (((smsRg (l.take i) ++ (if t2.nm ≠ [] then [t2.nm] else [])) ++ exsRg (t2.es.take 0))).length ((((smsRg (l.take i) ++ (if t2.nm ≠ [] then [t2.nm] else [])) ++ exsRg (t2.es.take 0))).map Str)]) (by kernel_rfl)
   replace hM := (hM.order [[.row b4 9 [Str t2.nm]], [.own 9 1 (.slice A6 (((smsRg (l.take i) ++ (if t2.nm ≠ [] then [t2.nm] else [])) ++ exsRg (t2.es.take 0))).length c7) (((smsRg (l.take i) ++ (if t2.nm ≠ [] then [t2.nm] else [])) ++ exsRg (t2.es.take 0))).length ((((smsRg (l.take i) ++ (if t2.nm ≠ [] then [t2.nm] else [])) ++ exsRg (t2.es.take 0))).map Str)]] [1, 0] 2 rfl (by simp) (by decide) ([.own 9 1 (.slice A6 (((smsRg (l.take i) ++ (if t2.nm ≠ [] then [t2.nm] else [])) ++ exsRg (t2.es.take 0))).length c7) (((smsRg (l.take i) ++ (if t2.nm ≠ [] then [t2.nm] else [])) ++ exsRg (t2.es.take 0))).length ((((smsRg (l.take i) ++ (if t2.nm ≠ [] then [t2.nm] else [])) ++ exsRg (t2.es.take 0))).map Str), .row b4 9 [Str t2.nm]]) (by simp))
   replace hM := hM.to ([.own 9 1 (.slice A6 (((smsRg (l.take i) ++ (if t2.nm ≠ [] then [t2.nm] else [])) ++ exsRg (t2.es.take 0))).length c7) (((smsRg (l.take i) ++ (if t2.nm ≠ [] then [t2.nm] else [])) ++ exsRg (t2.es.take 0))).length ((((smsRg (l.take i) ++ (if t2.nm ≠ [] then [t2.nm] else [])) ++ exsRg (t2.es.take 0))).map Str), .row b4 9 [Str t2.nm]]) (by kernel_rfl)
   refine wLX (fun x : Nat × (Option Addr) × Nat => [(17, .bool true), (9, .bool true), (2, .slice none 0 0), (0, .slice A l.length c), (4, vN i), (5, .int .i64 ((x.1 : Nat) : Int)), (3, .slice x.2.1 (((smsRg (l.take i) ++ (if t2.nm ≠ [] then [t2.nm] else [])) ++ exsRg (t2.es.take x.1))).length x.2.2)]) (fun x : Nat × (Option Addr) × Nat => [.own 9 1 (.slice x.2.1 (((smsRg (l.take i) ++ (if t2.nm ≠ [] then [t2.nm] else [])) ++ exsRg (t2.es.take x.1))).length x.2.2) (((smsRg (l.take i) ++ (if t2.nm ≠ [] then [t2.nm] else [])) ++ exsRg (t2.es.take x.1))).length ((((smsRg (l.take i) ++ (if t2.nm ≠ [] then [t2.nm] else [])) ++ exsRg (t2.es.take x.1))).map Str), .row b4 9 [Str t2.nm]]) (fun x : Nat × (Option Addr) × Nat => x.1 ≤ t2.es.length) (fun x : Nat × (Option Addr) × Nat => t2.es.length - x.1) (0, A6, c7) (hK.sub ⟨rfl, rfl, rfl, rfl, rfl, rfl, rfl, trivial⟩) hM (Nat.zero_le _) ?_
   rintro ⟨k, A2, c2⟩ a w hK hM hR
   replace hK : Knows a 63 [(17, .bool true), (9, .bool true), (2, .slice none 0 0), (0, .slice A l.length c), (4, vN i), (5, vN k), (3, .slice A2 (((smsRg (l.take i) ++ (if t2.nm ≠ [] then [t2.nm] else [])) ++ exsRg (t2.es.take k))).length c2)] := hK
   replace hM : Mem w0 w [.own 9 1 (.slice A2 (((smsRg (l.take i) ++ (if t2.nm ≠ [] then [t2.nm] else [])) ++ exsRg (t2.es.take k))).length c2) (((smsRg (l.take i) ++ (if t2.nm ≠ [] then [t2.nm] else [])) ++ exsRg (t2.es.take k))).length ((((smsRg (l.take i) ++ (if t2.nm ≠ [] then [t2.nm] else [])) ++ exsRg (t2.es.take k))).map Str), .row b4 9 [Str t2.nm]] := hM
   replace hR : k ≤ t2.es.length := hR
   refine wp_seq ?_
   refine wp_seq ?_
   refine rg8 (by kernel_rfl) ?_
   refine sM hK 26 5 (by kernel_rfl) (.inl rfl) rfl fun a hK => ?_
   refine sM hK 27 0 (by kernel_rfl) (.inl rfl) rfl fun a hK => ?_
   refine sM hK 28 4 (by kernel_rfl) (.inl rfl) rfl fun a hK => ?_
   refine sP hK 29 (.pointer (some (at2.add (i * 7)))) (by kernel_rfl) (rX (k := i) (s := 7) rfl rfl At2 rfl Tryz.underlying38 (by kernel_rfl) (by omega)) fun a hK => ?_
   refine sP hK 30 (.pointer (some ((at2.add (i * 7)).add 4))) (by kernel_rfl) (by kernel_rfl) fun a hK => ?_
   refine sL hK 31 (.slice t2.A1 t2.es.length t2.c1) (by kernel_rfl) rfl rfl (((ct2.on hM.below)).addA 4 1 (by decide)) (by kernel_rfl) fun a hK => ?_
   refine sP hK 32 (.int .i64 ((t2.es.length : Nat) : Int)) (by kernel_rfl) (by kernel_rfl) fun a hK => ?_
   by_cases h8 : (((k : Nat) : Int) : Int) < ((t2.es.length : Nat) : Int)
   ·refine sP hK 33 (.bool true) (by kernel_rfl) (oB (b := (decide ((((k : Nat) : Int) : Int) < ((t2.es.length : Nat) : Int)))) (by kernel_rfl) (decide_eq_true h8)) fun a hK => ?_
    refine rps ?_
    refine wp_cond_true (hK.get rfl) ?_
    refine wp_skip ?_
    refine wp_seq ?_
    refine wp_block ?_
    refine rg12 (by kernel_rfl) ?_
    refine sM hK 36 3 (by kernel_rfl) (.inl rfl) rfl fun a hK => ?_
    refine sM hK 37 0 (by kernel_rfl) (.inl rfl) rfl fun a hK => ?_
    refine sM hK 38 4 (by kernel_rfl) (.inl rfl) rfl fun a hK => ?_
    refine sP hK 39 (.pointer (some (at2.add (i * 7)))) (by kernel_rfl) (rX (k := i) (s := 7) rfl rfl At2 rfl Tryz.underlying38 (by kernel_rfl) (by omega)) fun a hK => ?_
    refine sP hK 40 (.pointer (some ((at2.add (i * 7)).add 4))) (by kernel_rfl) (by kernel_rfl) fun a hK => ?_
    refine sL hK 41 (.slice t2.A1 t2.es.length t2.c1) (by kernel_rfl) rfl rfl (((ct2.on hM.below)).addA 4 1 (by decide)) (by kernel_rfl) fun a hK => ?_
    refine sM hK 42 5 (by kernel_rfl) (.inl rfl) rfl fun a hK => ?_
    obtain ⟨t9, ht9⟩ : ∃ t, t2.es[(k : Nat)]? = some t := ⟨_, List.getElem?_eq_getElem (by omega)⟩
    obtain ⟨⟨at9, At9, ct9⟩, et9⟩ := et2.exprs _ _ ht9; have nt9 := et9.len
    refine sP hK 43 (.pointer (some (at9.add (k * 4)))) (by kernel_rfl) (rX (k := k) (s := 4) rfl rfl At9 rfl Tryz.underlying26 (by kernel_rfl) (by omega)) fun a hK => ?_
    refine sL hK 44 (vE t9) (by kernel_rfl) rfl rfl ((ct9.on hM.below)) (by kernel_rfl) fun a hK => ?_
    refine sC hK hM 45 #[vE t9] (by kernel_rfl) (rC en_cantileverref03_regs rfl rfl (by kernel_rfl)) (ref_regs t9 _ (et9.on hM.below) (by have h8 := exsSz_mem (List.mem_of_getElem? ht9); have h9 := sm_sz t2; have h10 := smsSz_one (List.mem_of_getElem? ht2); omega)) ?_
    rintro ⟨A10, c11⟩ a w - hK hM
    refine stepAppendS hK hM 46 1 (m := (t9.rg).length) (news := ((t9.rg).map Str)) Tryz.underlying36 elem_str (by kernel_rfl) rfl rfl rfl rfl (own_src (hM.own 0 rfl)) (by simp) (all_one (fun _ => rfl) _) (by have h1 := smsRg_sz (l.take i); have h2 := smsSz_le (l := l) (i := i); have h5 := base_one (p := t2.nm ≠ []) t2.nm; have h6 := sm_sz t2; have h7 := smsSz_one (List.mem_of_getElem? ht2); have h8 := exsRg_sz (t2.es.take k); have h9 := exsSz_le (l := t2.es) (i := k); have h10 := rg_sz t9; have h11 := exsSz_mem (List.mem_of_getElem? ht9); (try simp only [List.length_append]); omega) ?_
    intro v13 a w hK hM
    replace hM := hM.to ([.own 9 1 (.slice A10 (t9.rg).length c11) (t9.rg).length ((t9.rg).map Str), .own 9 1 v13 ((((smsRg (l.take i) ++ (if t2.nm ≠ [] then [t2.nm] else [])) ++ exsRg (t2.es.take k)) ++ t9.rg)).length (((((smsRg (l.take i) ++ (if t2.nm ≠ [] then [t2.nm] else [])) ++ exsRg (t2.es.take k)) ++ t9.rg)).map Str), .row b4 9 [Str t2.nm]]) (by rw [show ((((smsRg (l.take i) ++ (if t2.nm ≠ [] then [t2.nm] else [])) ++ exsRg (t2.es.take k)) ++ t9.rg)).length = ((((smsRg (l.take i) ++ (if t2.nm ≠ [] then [t2.nm] else [])) ++ exsRg (t2.es.take k))).length + (t9.rg).length) by (simp <;> omega), show (((((smsRg (l.take i) ++ (if t2.nm ≠ [] then [t2.nm] else [])) ++ exsRg (t2.es.take k)) ++ t9.rg)).map Str) = (((((smsRg (l.take i) ++ (if t2.nm ≠ [] then [t2.nm] else [])) ++ exsRg (t2.es.take k))).map Str) ++ ((t9.rg).map Str)) by simp [List.map_drop, List.map_take]]; rfl)
    obtain ⟨A14, c15, rfl⟩ := own_is (f := Str) (l := (((smsRg (l.take i) ++ (if t2.nm ≠ [] then [t2.nm] else [])) ++ exsRg (t2.es.take k)) ++ t9.rg)) (hM.own 1 rfl)
    refine sM hK 3 46 (by kernel_rfl) (.inr rfl) rfl fun a hK => ?_
    refine rps ?_
    refine rg3 (by kernel_rfl) ?_
    refine sM hK 34 5 (by kernel_rfl) (.inl rfl) rfl fun a hK => ?_
    refine sP hK 35 (.int .i64 (((k + 1) : Nat) : Int)) (by kernel_rfl) (run_addN (i := k) (j := 1) rfl rfl rfl (by omega)) fun a hK => ?_
    refine sM hK 5 35 (by kernel_rfl) (.inr rfl) rfl fun a hK => ?_
    refine rps ?_
    have hL9 : (((smsRg (l.take i) ++ (if t2.nm ≠ [] then [t2.nm] else [])) ++ exsRg (t2.es.take k)) ++ t9.rg) = ((smsRg (l.take i) ++ (if t2.nm ≠ [] then [t2.nm] else [])) ++ exsRg (t2.es.take (k + 1))) := (by rw [exsRg_take ht9, List.append_assoc])
    rw [hL9] at hM; try rw [hL9] at hK
    clear hL9
    replace hM := hM.to ([.own 9 1 (.slice A10 (t9.rg).length c11) (t9.rg).length ((t9.rg).map Str), .own 9 1 (.slice A14 (((smsRg (l.take i) ++ (if t2.nm ≠ [] then [t2.nm] else [])) ++ exsRg (t2.es.take (k + 1)))).length c15) (((smsRg (l.take i) ++ (if t2.nm ≠ [] then [t2.nm] else [])) ++ exsRg (t2.es.take (k + 1)))).length ((((smsRg (l.take i) ++ (if t2.nm ≠ [] then [t2.nm] else [])) ++ exsRg (t2.es.take (k + 1)))).map Str), .row b4 9 [Str t2.nm]]) (by kernel_rfl)
    replace hM := hM.drop 1
    replace hM := hM.to ([.own 9 1 (.slice A14 (((smsRg (l.take i) ++ (if t2.nm ≠ [] then [t2.nm] else [])) ++ exsRg (t2.es.take (k + 1)))).length c15) (((smsRg (l.take i) ++ (if t2.nm ≠ [] then [t2.nm] else [])) ++ exsRg (t2.es.take (k + 1)))).length ((((smsRg (l.take i) ++ (if t2.nm ≠ [] then [t2.nm] else [])) ++ exsRg (t2.es.take (k + 1)))).map Str), .row b4 9 [Str t2.nm]]) (by kernel_rfl)
    have hRn : (k + 1) ≤ t2.es.length := (by omega)
    have hmn : t2.es.length - (k + 1) < t2.es.length - k := by omega
    exact ⟨(k + 1, A14, c15), hK.sub ⟨rfl, rfl, rfl, rfl, rfl, rfl, rfl, trivial⟩, hM, hRn, hmn⟩
   ·refine sP hK 33 (.bool false) (by kernel_rfl) (oB (b := (decide ((((k : Nat) : Int) : Int) < ((t2.es.length : Nat) : Int)))) (by kernel_rfl) (decide_eq_false h8)) fun a hK => ?_
    refine rps ?_
    refine wp_cond_false (hK.get rfl) ?_
    refine wp_exit (exit_then (exit_then (exit_here 2 ?_)))
    refine wp_cut (fun a w => ∃ (A11_13 : Option Addr), ∃ (A11_14 : Option Addr), ∃ (A11_6 : Option Addr), ∃ (A11_7 : Option Addr), ∃ (c11_13 : Nat), ∃ (c11_14 : Nat), ∃ (c11_6 : Nat), ∃ (c11_7 : Nat), Knows a 63 [(3, .slice A11_14 (((((smsRg (l.take i) ++ (if t2.nm ≠ [] then [t2.nm] else [])) ++ exsRg (t2.es.take k)) ++ (smsRg t2.th)) ++ (smsRg t2.el))).length c11_14), (33, .bool false), (17, .bool true), (9, .bool true), (2, .slice none 0 0), (0, .slice A l.length c), (4, vN i), (5, vN k)] ∧ Mem w0 w [.own 9 1 (.slice A11_13 ((smsRg t2.el)).length c11_13) ((smsRg t2.el)).length (((smsRg t2.el)).map Str), .own 9 1 (.slice A11_6 ((smsRg t2.th)).length c11_6) ((smsRg t2.th)).length (((smsRg t2.th)).map Str), .own 9 1 (.slice A11_14 (((((smsRg (l.take i) ++ (if t2.nm ≠ [] then [t2.nm] else [])) ++ exsRg (t2.es.take k)) ++ (smsRg t2.th)) ++ (smsRg t2.el))).length c11_14) (((((smsRg (l.take i) ++ (if t2.nm ≠ [] then [t2.nm] else [])) ++ exsRg (t2.es.take k)) ++ (smsRg t2.th)) ++ (smsRg t2.el))).length ((((((smsRg (l.take i) ++ (if t2.nm ≠ [] then [t2.nm] else [])) ++ exsRg (t2.es.take k)) ++ (smsRg t2.th)) ++ (smsRg t2.el))).map Str), .row b4 9 [Str t2.nm]]) ?_ ?_
    ·refine region_tree hM (by kernel_rfl) 16 (by kernel_rfl) #[false, false, false, false, false, false, false, false, false, false, false, false, false, false, false, false] (by kernel_rfl) ?_
     clear hM; intro w hM
     refine tP hK 0 47 (.slice A2 (((smsRg (l.take i) ++ (if t2.nm ≠ [] then [t2.nm] else [])) ++ exsRg (t2.es.take k))).length c2) (by kernel_rfl) (by kernel_rfl) (by kernel_rfl) (fun w => (by kernel_rfl)) #[true, false, false, false, false, false, false, false, false, false, false, false, false, false, false, false] (by kernel_rfl) fun a hK => ?_
     refine tP hK 1 48 (.slice A l.length c) (by kernel_rfl) (by kernel_rfl) (by kernel_rfl) (fun w => (by kernel_rfl)) #[true, true, false, false, false, false, false, false, false, false, false, false, false, false, false, false] (by kernel_rfl) fun a hK => ?_
     refine tP hK 2 49 (vN i) (by kernel_rfl) (by kernel_rfl) (by kernel_rfl) (fun w => (by kernel_rfl)) #[true, true, true, false, false, false, false, false, false, false, false, false, false, false, false, false] (by kernel_rfl) fun a hK => ?_
     refine tP hK 3 50 (.pointer (some (at2.add (i * 7)))) (by kernel_rfl) (by kernel_rfl) (by kernel_rfl) (fun w => (rX (k := i) (s := 7) rfl rfl At2 rfl Tryz.underlying38 (by kernel_rfl) (by omega))) #[true, true, true, true, false, false, false, false, false, false, false, false, false, false, false, false] (by kernel_rfl) fun a hK => ?_
     refine tP hK 4 51 (.pointer (some ((at2.add (i * 7)).add 5))) (by kernel_rfl) (by kernel_rfl) (by kernel_rfl) (fun w => (by kernel_rfl)) #[true, true, true, true, true, false, false, false, false, false, false, false, false, false, false, false] (by kernel_rfl) fun a hK => ?_
     refine tP hK 8 55 (.slice A l.length c) (by kernel_rfl) (by kernel_rfl) (by kernel_rfl) (fun w => (by kernel_rfl)) #[true, true, true, true, true, false, false, false, true, false, false, false, false, false, false, false] (by kernel_rfl) fun a hK => ?_
     refine tP hK 9 56 (vN i) (by kernel_rfl) (by kernel_rfl) (by kernel_rfl) (fun w => (by kernel_rfl)) #[true, true, true, true, true, false, false, false, true, true, false, false, false, false, false, false] (by kernel_rfl) fun a hK => ?_
     refine tP hK 10 57 (.pointer (some (at2.add (i * 7)))) (by kernel_rfl) (by kernel_rfl) (by kernel_rfl) (fun w => (rX (k := i) (s := 7) rfl rfl At2 rfl Tryz.underlying38 (by kernel_rfl) (by omega))) #[true, true, true, true, true, false, false, false, true, true, true, false, false, false, false, false] (by kernel_rfl) fun a hK => ?_
     refine tP hK 11 58 (.pointer (some ((at2.add (i * 7)).add 6))) (by kernel_rfl) (by kernel_rfl) (by kernel_rfl) (fun w => (by kernel_rfl)) #[true, true, true, true, true, false, false, false, true, true, true, true, false, false, false, false] (by kernel_rfl) fun a hK => ?_
     refine tM [5, 12] (by kernel_rfl) rfl ⟨?_, ?_, trivial⟩
     ·refine sL hK 52 (.slice t2.A2 t2.th.length t2.c2) (by kernel_rfl) rfl rfl (((ct2.on hM.below)).addA 5 1 (by decide)) (by kernel_rfl) fun a hK => ?_
      refine tX #[true, true, true, true, true, true, false, false, true, true, true, true, false, false, false, false] (by kernel_rfl) ?_
      refine tM [6, 12] (by kernel_rfl) rfl ⟨?_, ?_, trivial⟩
      ·refine sC hK hM 53 #[.slice t2.A2 t2.th.length t2.c2] (by kernel_rfl) (rC en_cantileverref03_all rfl rfl (by kernel_rfl)) ((ih t2 (List.mem_of_getElem? ht2)).1 _ _ _ (et2.thn.on hM.below) (by have h9 := sm_sz t2; have h10 := smsSz_one (List.mem_of_getElem? ht2); omega)) ?_
       rintro ⟨A11_6, c11_6⟩ a w - hK hM
       refine tX #[true, true, true, true, true, true, true, false, true, true, true, true, false, false, false, false] (by kernel_rfl) ?_
       refine tM [7, 12] (by kernel_rfl) rfl ⟨?_, ?_, trivial⟩
       ·refine stepAppendS hK hM 54 1 (m := ((smsRg t2.th)).length) (news := (((smsRg t2.th)).map Str)) Tryz.underlying36 elem_str (by kernel_rfl) rfl rfl rfl rfl (own_src (hM.own 0 rfl)) (by simp) (all_one (fun _ => rfl) _) (by have h1 := smsRg_sz (l.take i); have h2 := smsSz_le (l := l) (i := i); have h5 := base_one (p := t2.nm ≠ []) t2.nm; have h6 := sm_sz t2; have h7 := smsSz_one (List.mem_of_getElem? ht2); have h8 := exsRg_sz (t2.es.take k); have h9 := exsSz_le (l := t2.es) (i := k); have h10 := smsRg_sz t2.th; have h11 := smsRg_sz t2.el; (try simp only [List.length_append]); omega) ?_
        intro v17 a w hK hM
        replace hM := hM.to ([.own 9 1 (.slice A11_6 ((smsRg t2.th)).length c11_6) ((smsRg t2.th)).length (((smsRg t2.th)).map Str), .own 9 1 v17 ((((smsRg (l.take i) ++ (if t2.nm ≠ [] then [t2.nm] else [])) ++ exsRg (t2.es.take k)) ++ (smsRg t2.th))).length (((((smsRg (l.take i) ++ (if t2.nm ≠ [] then [t2.nm] else [])) ++ exsRg (t2.es.take k)) ++ (smsRg t2.th))).map Str), .row b4 9 [Str t2.nm]]) (by rw [show ((((smsRg (l.take i) ++ (if t2.nm ≠ [] then [t2.nm] else [])) ++ exsRg (t2.es.take k)) ++ (smsRg t2.th))).length = ((((smsRg (l.take i) ++ (if t2.nm ≠ [] then [t2.nm] else [])) ++ exsRg (t2.es.take k))).length + ((smsRg t2.th)).length) by (simp <;> omega), show (((((smsRg (l.take i) ++ (if t2.nm ≠ [] then [t2.nm] else [])) ++ exsRg (t2.es.take k)) ++ (smsRg t2.th))).map Str) = (((((smsRg (l.take i) ++ (if t2.nm ≠ [] then [t2.nm] else [])) ++ exsRg (t2.es.take k))).map Str) ++ (((smsRg t2.th)).map Str)) by simp [List.map_drop, List.map_take]]; rfl)
        obtain ⟨A11_7, c11_7, rfl⟩ := own_is (f := Str) (l := (((smsRg (l.take i) ++ (if t2.nm ≠ [] then [t2.nm] else [])) ++ exsRg (t2.es.take k)) ++ (smsRg t2.th))) (hM.own 1 rfl)
        refine tX #[true, true, true, true, true, true, true, true, true, true, true, true, false, false, false, false] (by kernel_rfl) ?_
        refine tM [12] (by kernel_rfl) rfl ⟨?_, trivial⟩
        refine sL hK 59 (.slice t2.A3 t2.el.length t2.c3) (by kernel_rfl) rfl rfl (((ct2.on hM.below)).addA 6 1 (by decide)) (by kernel_rfl) fun a hK => ?_
        refine tX #[true, true, true, true, true, true, true, true, true, true, true, true, true, false, false, false] (by kernel_rfl) ?_
        refine tM [13] (by kernel_rfl) rfl ⟨?_, trivial⟩
        refine sC hK hM 60 #[.slice t2.A3 t2.el.length t2.c3] (by kernel_rfl) (rC en_cantileverref03_all rfl rfl (by kernel_rfl)) ((ih t2 (List.mem_of_getElem? ht2)).2 _ _ _ (et2.els.on hM.below) (by have h9 := sm_sz t2; have h10 := smsSz_one (List.mem_of_getElem? ht2); omega)) ?_
        rintro ⟨A11_13, c11_13⟩ a w - hK hM
        refine tX #[true, true, true, true, true, true, true, true, true, true, true, true, true, true, false, false] (by kernel_rfl) ?_
        refine tM [14] (by kernel_rfl) rfl ⟨?_, trivial⟩
        refine stepAppendS hK hM 61 2 (m := ((smsRg t2.el)).length) (news := (((smsRg t2.el)).map Str)) Tryz.underlying36 elem_str (by kernel_rfl) rfl rfl rfl rfl (own_src (hM.own 0 rfl)) (by simp) (all_one (fun _ => rfl) _) (by have h1 := smsRg_sz (l.take i); have h2 := smsSz_le (l := l) (i := i); have h5 := base_one (p := t2.nm ≠ []) t2.nm; have h6 := sm_sz t2; have h7 := smsSz_one (List.mem_of_getElem? ht2); have h8 := exsRg_sz (t2.es.take k); have h9 := exsSz_le (l := t2.es) (i := k); have h10 := smsRg_sz t2.th; have h11 := smsRg_sz t2.el; (try simp only [List.length_append]); omega) ?_
        intro v19 a w hK hM
        replace hM := hM.to ([.own 9 1 (.slice A11_13 ((smsRg t2.el)).length c11_13) ((smsRg t2.el)).length (((smsRg t2.el)).map Str), .own 9 1 (.slice A11_6 ((smsRg t2.th)).length c11_6) ((smsRg t2.th)).length (((smsRg t2.th)).map Str), .own 9 1 v19 (((((smsRg (l.take i) ++ (if t2.nm ≠ [] then [t2.nm] else [])) ++ exsRg (t2.es.take k)) ++ (smsRg t2.th)) ++ (smsRg t2.el))).length ((((((smsRg (l.take i) ++ (if t2.nm ≠ [] then [t2.nm] else [])) ++ exsRg (t2.es.take k)) ++ (smsRg t2.th)) ++ (smsRg t2.el))).map Str), .row b4 9 [Str t2.nm]]) (by rw [show (((((smsRg (l.take i) ++ (if t2.nm ≠ [] then [t2.nm] else [])) ++ exsRg (t2.es.take k)) ++ (smsRg t2.th)) ++ (smsRg t2.el))).length = (((((smsRg (l.take i) ++ (if t2.nm ≠ [] then [t2.nm] else [])) ++ exsRg (t2.es.take k)) ++ (smsRg t2.th))).length + ((smsRg t2.el)).length) by (simp <;> omega), show ((((((smsRg (l.take i) ++ (if t2.nm ≠ [] then [t2.nm] else [])) ++ exsRg (t2.es.take k)) ++ (smsRg t2.th)) ++ (smsRg t2.el))).map Str) = ((((((smsRg (l.take i) ++ (if t2.nm ≠ [] then [t2.nm] else [])) ++ exsRg (t2.es.take k)) ++ (smsRg t2.th))).map Str) ++ (((smsRg t2.el)).map Str)) by simp [List.map_drop, List.map_take]]; rfl)
        obtain ⟨A11_14, c11_14, rfl⟩ := own_is (f := Str) (l := ((((smsRg (l.take i) ++ (if t2.nm ≠ [] then [t2.nm] else [])) ++ exsRg (t2.es.take k)) ++ (smsRg t2.th)) ++ (smsRg t2.el))) (hM.own 2 rfl)
        refine tX #[true, true, true, true, true, true, true, true, true, true, true, true, true, true, true, false] (by kernel_rfl) ?_
        refine tP hK 15 3 (.slice A11_14 (((((smsRg (l.take i) ++ (if t2.nm ≠ [] then [t2.nm] else [])) ++ exsRg (t2.es.take k)) ++ (smsRg t2.th)) ++ (smsRg t2.el))).length c11_14) (by kernel_rfl) (by kernel_rfl) (by kernel_rfl) (fun w => (by kernel_rfl)) #[true, true, true, true, true, true, true, true, true, true, true, true, true, true, true, true] (by kernel_rfl) fun a hK => ?_
        exact treeE (by kernel_rfl) ⟨A11_13, A11_14, A11_6, A11_7, c11_13, c11_14, c11_6, c11_7, hK.sub ⟨rfl, rfl, rfl, rfl, rfl, rfl, rfl, rfl, trivial⟩, hM⟩
       ·refine sL hK 59 (.slice t2.A3 t2.el.length t2.c3) (by kernel_rfl) rfl rfl (((ct2.on hM.below)).addA 6 1 (by decide)) (by kernel_rfl) fun a hK => ?_
        refine tX #[true, true, true, true, true, true, true, false, true, true, true, true, true, false, false, false] (by kernel_rfl) ?_
        refine tM [7] (by kernel_rfl) rfl ⟨?_, trivial⟩
        refine stepAppendS hK hM 54 1 (m := ((smsRg t2.th)).length) (news := (((smsRg t2.th)).map Str)) Tryz.underlying36 elem_str (by kernel_rfl) rfl rfl rfl rfl (own_src (hM.own 0 rfl)) (by simp) (all_one (fun _ => rfl) _) (by have h1 := smsRg_sz (l.take i); have h2 := smsSz_le (l := l) (i := i); have h5 := base_one (p := t2.nm ≠ []) t2.nm; have h6 := sm_sz t2; have h7 := smsSz_one (List.mem_of_getElem? ht2); have h8 := exsRg_sz (t2.es.take k); have h9 := exsSz_le (l := t2.es) (i := k); have h10 := smsRg_sz t2.th; have h11 := smsRg_sz t2.el; (try simp only [List.length_append]); omega) ?_
        intro v20 a w hK hM
        replace hM := hM.to ([.own 9 1 (.slice A11_6 ((smsRg t2.th)).length c11_6) ((smsRg t2.th)).length (((smsRg t2.th)).map Str), .own 9 1 v20 ((((smsRg (l.take i) ++ (if t2.nm ≠ [] then [t2.nm] else [])) ++ exsRg (t2.es.take k)) ++ (smsRg t2.th))).length (((((smsRg (l.take i) ++ (if t2.nm ≠ [] then [t2.nm] else [])) ++ exsRg (t2.es.take k)) ++ (smsRg t2.th))).map Str), .row b4 9 [Str t2.nm]]) (by rw [show ((((smsRg (l.take i) ++ (if t2.nm ≠ [] then [t2.nm] else [])) ++ exsRg (t2.es.take k)) ++ (smsRg t2.th))).length = ((((smsRg (l.take i) ++ (if t2.nm ≠ [] then [t2.nm] else [])) ++ exsRg (t2.es.take k))).length + ((smsRg t2.th)).length) by (simp <;> omega), show (((((smsRg (l.take i) ++ (if t2.nm ≠ [] then [t2.nm] else [])) ++ exsRg (t2.es.take k)) ++ (smsRg t2.th))).map Str) = (((((smsRg (l.take i) ++ (if t2.nm ≠ [] then [t2.nm] else [])) ++ exsRg (t2.es.take k))).map Str) ++ (((smsRg t2.th)).map Str)) by simp [List.map_drop, List.map_take]]; rfl)
        obtain ⟨A11_7, c11_7, rfl⟩ := own_is (f := Str) (l := (((smsRg (l.take i) ++ (if t2.nm ≠ [] then [t2.nm] else [])) ++ exsRg (t2.es.take k)) ++ (smsRg t2.th))) (hM.own 1 rfl)
        refine tX #[true, true, true, true, true, true, true, true, true, true, true, true, true, false, false, false] (by kernel_rfl) ?_
        refine tM [13] (by kernel_rfl) rfl ⟨?_, trivial⟩
        refine sC hK hM 60 #[.slice t2.A3 t2.el.length t2.c3] (by kernel_rfl) (rC en_cantileverref03_all rfl rfl (by kernel_rfl)) ((ih t2 (List.mem_of_getElem? ht2)).2 _ _ _ (et2.els.on hM.below) (by have h9 := sm_sz t2; have h10 := smsSz_one (List.mem_of_getElem? ht2); omega)) ?_
        rintro ⟨A11_13, c11_13⟩ a w - hK hM
        refine tX #[true, true, true, true, true, true, true, true, true, true, true, true, true, true, false, false] (by kernel_rfl) ?_
        refine tM [14] (by kernel_rfl) rfl ⟨?_, trivial⟩
        refine stepAppendS hK hM 61 2 (m := ((smsRg t2.el)).length) (news := (((smsRg t2.el)).map Str)) Tryz.underlying36 elem_str (by kernel_rfl) rfl rfl rfl rfl (own_src (hM.own 0 rfl)) (by simp) (all_one (fun _ => rfl) _) (by have h1 := smsRg_sz (l.take i); have h2 := smsSz_le (l := l) (i := i); have h5 := base_one (p := t2.nm ≠ []) t2.nm; have h6 := sm_sz t2; have h7 := smsSz_one (List.mem_of_getElem? ht2); have h8 := exsRg_sz (t2.es.take k); have h9 := exsSz_le (l := t2.es) (i := k); have h10 := smsRg_sz t2.th; have h11 := smsRg_sz t2.el; (try simp only [List.length_append]); omega) ?_
        intro v22 a w hK hM
        replace hM := hM.to ([.own 9 1 (.slice A11_13 ((smsRg t2.el)).length c11_13) ((smsRg t2.el)).length (((smsRg t2.el)).map Str), .own 9 1 (.slice A11_6 ((smsRg t2.th)).length c11_6) ((smsRg t2.th)).length (((smsRg t2.th)).map Str), .own 9 1 v22 (((((smsRg (l.take i) ++ (if t2.nm ≠ [] then [t2.nm] else [])) ++ exsRg (t2.es.take k)) ++ (smsRg t2.th)) ++ (smsRg t2.el))).length ((((((smsRg (l.take i) ++ (if t2.nm ≠ [] then [t2.nm] else [])) ++ exsRg (t2.es.take k)) ++ (smsRg t2.th)) ++ (smsRg t2.el))).map Str), .row b4 9 [Str t2.nm]]) (by rw [show (((((smsRg (l.take i) ++ (if t2.nm ≠ [] then [t2.nm] else [])) ++ exsRg (t2.es.take k)) ++ (smsRg t2.th)) ++ (smsRg t2.el))).length = (((((smsRg (l.take i) ++ (if t2.nm ≠ [] then [t2.nm] else [])) ++ exsRg (t2.es.take k)) ++ (smsRg t2.th))).length + ((smsRg t2.el)).length) by (simp <;> omega), show ((((((smsRg (l.take i) ++ (if t2.nm ≠ [] then [t2.nm] else [])) ++ exsRg (t2.es.take k)) ++ (smsRg t2.th)) ++ (smsRg t2.el))).map Str) = ((((((smsRg (l.take i) ++ (if t2.nm ≠ [] then [t2.nm] else [])) ++ exsRg (t2.es.take k)) ++ (smsRg t2.th))).map Str) ++ (((smsRg t2.el)).map Str)) by simp [List.map_drop, List.map_take]]; rfl)
        obtain ⟨A11_14, c11_14, rfl⟩ := own_is (f := Str) (l := ((((smsRg (l.take i) ++ (if t2.nm ≠ [] then [t2.nm] else [])) ++ exsRg (t2.es.take k)) ++ (smsRg t2.th)) ++ (smsRg t2.el))) (hM.own 2 rfl)
        refine tX #[true, true, true, true, true, true, true, true, true, true, true, true, true, true, true, false] (by kernel_rfl) ?_
        refine tP hK 15 3 (.slice A11_14 (((((smsRg (l.take i) ++ (if t2.nm ≠ [] then [t2.nm] else [])) ++ exsRg (t2.es.take k)) ++ (smsRg t2.th)) ++ (smsRg t2.el))).length c11_14) (by kernel_rfl) (by kernel_rfl) (by kernel_rfl) (fun w => (by kernel_rfl)) #[true, true, true, true, true, true, true, true, true, true, true, true, true, true, true, true] (by kernel_rfl) fun a hK => ?_
        exact treeE (by kernel_rfl) ⟨A11_13, A11_14, A11_6, A11_7, c11_13, c11_14, c11_6, c11_7, hK.sub ⟨rfl, rfl, rfl, rfl, rfl, rfl, rfl, rfl, trivial⟩, hM⟩
      ·refine sL hK 59 (.slice t2.A3 t2.el.length t2.c3) (by kernel_rfl) rfl rfl (((ct2.on hM.below)).addA 6 1 (by decide)) (by kernel_rfl) fun a hK => ?_
       refine tX #[true, true, true, true, true, true, false, false, true, true, true, true, true, false, false, false] (by kernel_rfl) ?_
       refine tM [6] (by kernel_rfl) rfl ⟨?_, trivial⟩
       refine sC hK hM 53 #[.slice t2.A2 t2.th.length t2.c2] (by kernel_rfl) (rC en_cantileverref03_all rfl rfl (by kernel_rfl)) ((ih t2 (List.mem_of_getElem? ht2)).1 _ _ _ (et2.thn.on hM.below) (by have h9 := sm_sz t2; have h10 := smsSz_one (List.mem_of_getElem? ht2); omega)) ?_
       rintro ⟨A11_6, c11_6⟩ a w - hK hM
       refine tX #[true, true, true, true, true, true, true, false, true, true, true, true, true, false, false, false] (by kernel_rfl) ?_
       refine tM [7] (by kernel_rfl) rfl ⟨?_, trivial⟩
       refine stepAppendS hK hM 54 1 (m := ((smsRg t2.th)).length) (news := (((smsRg t2.th)).map Str)) Tryz.underlying36 elem_str (by kernel_rfl) rfl rfl rfl rfl (own_src (hM.own 0 rfl)) (by simp) (all_one (fun _ => rfl) _) (by have h1 := smsRg_sz (l.take i); have h2 := smsSz_le (l := l) (i := i); have h5 := base_one (p := t2.nm ≠ []) t2.nm; have h6 := sm_sz t2; have h7 := smsSz_one (List.mem_of_getElem? ht2); have h8 := exsRg_sz (t2.es.take k); have h9 := exsSz_le (l := t2.es) (i := k); have h10 := smsRg_sz t2.th; have h11 := smsRg_sz t2.el; (try simp only [List.length_append]); omega) ?_
       intro v24 a w hK hM
       replace hM := hM.to ([.own 9 1 (.slice A11_6 ((smsRg t2.th)).length c11_6) ((smsRg t2.th)).length (((smsRg t2.th)).map Str), .own 9 1 v24 ((((smsRg (l.take i) ++ (if t2.nm ≠ [] then [t2.nm] else [])) ++ exsRg (t2.es.take k)) ++ (smsRg t2.th))).length (((((smsRg (l.take i) ++ (if t2.nm ≠ [] then [t2.nm] else [])) ++ exsRg (t2.es.take k)) ++ (smsRg t2.th))).map Str), .row b4 9 [Str t2.nm]]) (by rw [show ((((smsRg (l.take i) ++ (if t2.nm ≠ [] then [t2.nm] else [])) ++ exsRg (t2.es.take k)) ++ (smsRg t2.th))).length = ((((smsRg (l.take i) ++ (if t2.nm ≠ [] then [t2.nm] else [])) ++ exsRg (t2.es.take k))).length + ((smsRg t2.th)).length) by (simp <;> omega), show (((((smsRg (l.take i) ++ (if t2.nm ≠ [] then [t2.nm] else [])) ++ exsRg (t2.es.take k)) ++ (smsRg t2.th))).map Str) = (((((smsRg (l.take i) ++ (if t2.nm ≠ [] then [t2.nm] else [])) ++ exsRg (t2.es.take k))).map Str) ++ (((smsRg t2.th)).map Str)) by simp [List.map_drop, List.map_take]]; rfl)
       obtain ⟨A11_7, c11_7, rfl⟩ := own_is (f := Str) (l := (((smsRg (l.take i) ++ (if t2.nm ≠ [] then [t2.nm] else [])) ++ exsRg (t2.es.take k)) ++ (smsRg t2.th))) (hM.own 1 rfl)
       refine tX #[true, true, true, true, true, true, true, true, true, true, true, true, true, false, false, false] (by kernel_rfl) ?_
       refine tM [13] (by kernel_rfl) rfl ⟨?_, trivial⟩
       refine sC hK hM 60 #[.slice t2.A3 t2.el.length t2.c3] (by kernel_rfl) (rC en_cantileverref03_all rfl rfl (by kernel_rfl)) ((ih t2 (List.mem_of_getElem? ht2)).2 _ _ _ (et2.els.on hM.below) (by have h9 := sm_sz t2; have h10 := smsSz_one (List.mem_of_getElem? ht2); omega)) ?_
       rintro ⟨A11_13, c11_13⟩ a w - hK hM
       refine tX #[true, true, true, true, true, true, true, true, true, true, true, true, true, true, false, false] (by kernel_rfl) ?_
       refine tM [14] (by kernel_rfl) rfl ⟨?_, trivial⟩
       refine stepAppendS hK hM 61 2 (m := ((smsRg t2.el)).length) (news := (((smsRg t2.el)).map Str)) Tryz.underlying36 elem_str (by kernel_rfl) rfl rfl rfl rfl (own_src (hM.own 0 rfl)) (by simp) (all_one (fun _ => rfl) _) (by have h1 := smsRg_sz (l.take i); have h2 := smsSz_le (l := l) (i := i); have h5 := base_one (p := t2.nm ≠ []) t2.nm; have h6 := sm_sz t2; have h7 := smsSz_one (List.mem_of_getElem? ht2); have h8 := exsRg_sz (t2.es.take k); have h9 := exsSz_le (l := t2.es) (i := k); have h10 := smsRg_sz t2.th; have h11 := smsRg_sz t2.el; (try simp only [List.length_append]); omega) ?_
       intro v26 a w hK hM
       replace hM := hM.to ([.own 9 1 (.slice A11_13 ((smsRg t2.el)).length c11_13) ((smsRg t2.el)).length (((smsRg t2.el)).map Str), .own 9 1 (.slice A11_6 ((smsRg t2.th)).length c11_6) ((smsRg t2.th)).length (((smsRg t2.th)).map Str), .own 9 1 v26 (((((smsRg (l.take i) ++ (if t2.nm ≠ [] then [t2.nm] else [])) ++ exsRg (t2.es.take k)) ++ (smsRg t2.th)) ++ (smsRg t2.el))).length ((((((smsRg (l.take i) ++ (if t2.nm ≠ [] then [t2.nm] else [])) ++ exsRg (t2.es.take k)) ++ (smsRg t2.th)) ++ (smsRg t2.el))).map Str), .row b4 9 [Str t2.nm]]) (by rw [show (((((smsRg (l.take i) ++ (if t2.nm ≠ [] then [t2.nm] else [])) ++ exsRg (t2.es.take k)) ++ (smsRg t2.th)) ++ (smsRg t2.el))).length = (((((smsRg (l.take i) ++ (if t2.nm ≠ [] then [t2.nm] else [])) ++ exsRg (t2.es.take k)) ++ (smsRg t2.th))).length + ((smsRg t2.el)).length) by (simp <;> omega), show ((((((smsRg (l.take i) ++ (if t2.nm ≠ [] then [t2.nm] else [])) ++ exsRg (t2.es.take k)) ++ (smsRg t2.th)) ++ (smsRg t2.el))).map Str) = ((((((smsRg (l.take i) ++ (if t2.nm ≠ [] then [t2.nm] else [])) ++ exsRg (t2.es.take k)) ++ (smsRg t2.th))).map Str) ++ (((smsRg t2.el)).map Str)) by simp [List.map_drop, List.map_take]]; rfl)
       obtain ⟨A11_14, c11_14, rfl⟩ := own_is (f := Str) (l := ((((smsRg (l.take i) ++ (if t2.nm ≠ [] then [t2.nm] else [])) ++ exsRg (t2.es.take k)) ++ (smsRg t2.th)) ++ (smsRg t2.el))) (hM.own 2 rfl)
       refine tX #[true, true, true, true, true, true, true, true, true, true, true, true, true, true, true, false] (by kernel_rfl) ?_
       refine tP hK 15 3 (.slice A11_14 (((((smsRg (l.take i) ++ (if t2.nm ≠ [] then [t2.nm] else [])) ++ exsRg (t2.es.take k)) ++ (smsRg t2.th)) ++ (smsRg t2.el))).length c11_14) (by kernel_rfl) (by kernel_rfl) (by kernel_rfl) (fun w => (by kernel_rfl)) #[true, true, true, true, true, true, true, true, true, true, true, true, true, true, true, true] (by kernel_rfl) fun a hK => ?_
       exact treeE (by kernel_rfl) ⟨A11_13, A11_14, A11_6, A11_7, c11_13, c11_14, c11_6, c11_7, hK.sub ⟨rfl, rfl, rfl, rfl, rfl, rfl, rfl, rfl, trivial⟩, hM⟩
     ·refine sL hK 59 (.slice t2.A3 t2.el.length t2.c3) (by kernel_rfl) rfl rfl (((ct2.on hM.below)).addA 6 1 (by decide)) (by kernel_rfl) fun a hK => ?_
      refine tX #[true, true, true, true, true, false, false, false, true, true, true, true, true, false, false, false] (by kernel_rfl) ?_
      refine tM [5] (by kernel_rfl) rfl ⟨?_, trivial⟩
      refine sL hK 52 (.slice t2.A2 t2.th.length t2.c2) (by kernel_rfl) rfl rfl (((ct2.on hM.below)).addA 5 1 (by decide)) (by kernel_rfl) fun a hK => ?_
      refine tX #[true, true, true, true, true, true, false, false, true, true, true, true, true, false, false, false] (by kernel_rfl) ?_
      refine tM [6] (by kernel_rfl) rfl ⟨?_, trivial⟩
      refine sC hK hM 53 #[.slice t2.A2 t2.th.length t2.c2] (by kernel_rfl) (rC en_cantileverref03_all rfl rfl (by kernel_rfl)) ((ih t2 (List.mem_of_getElem? ht2)).1 _ _ _ (et2.thn.on hM.below) (by have h9 := sm_sz t2; have h10 := smsSz_one (List.mem_of_getElem? ht2); omega)) ?_
      rintro ⟨A11_6, c11_6⟩ a w - hK hM
      refine tX #[true, true, true, true, true, true, true, false, true, true, true, true, true, false, false, false] (by kernel_rfl) ?_
      refine tM [7] (by kernel_rfl) rfl ⟨?_, trivial⟩
      refine stepAppendS hK hM 54 1 (m := ((smsRg t2.th)).length) (news := (((smsRg t2.th)).map Str)) Tryz.underlying36 elem_str (by kernel_rfl) rfl rfl rfl rfl (own_src (hM.own 0 rfl)) (by simp) (all_one (fun _ => rfl) _) (by have h1 := smsRg_sz (l.take i); have h2 := smsSz_le (l := l) (i := i); have h5 := base_one (p := t2.nm ≠ []) t2.nm; have h6 := sm_sz t2; have h7 := smsSz_one (List.mem_of_getElem? ht2); have h8 := exsRg_sz (t2.es.take k); have h9 := exsSz_le (l := t2.es) (i := k); have h10 := smsRg_sz t2.th; have h11 := smsRg_sz t2.el; (try simp only [List.length_append]); omega) ?_
      intro v28 a w hK hM
      replace hM := hM.to ([.own 9 1 (.slice A11_6 ((smsRg t2.th)).length c11_6) ((smsRg t2.th)).length (((smsRg t2.th)).map Str), .own 9 1 v28 ((((smsRg (l.take i) ++ (if t2.nm ≠ [] then [t2.nm] else [])) ++ exsRg (t2.es.take k)) ++ (smsRg t2.th))).length (((((smsRg (l.take i) ++ (if t2.nm ≠ [] then [t2.nm] else [])) ++ exsRg (t2.es.take k)) ++ (smsRg t2.th))).map Str), .row b4 9 [Str t2.nm]]) (by rw [show ((((smsRg (l.take i) ++ (if t2.nm ≠ [] then [t2.nm] else [])) ++ exsRg (t2.es.take k)) ++ (smsRg t2.th))).length = ((((smsRg (l.take i) ++ (if t2.nm ≠ [] then [t2.nm] else [])) ++ exsRg (t2.es.take k))).length + ((smsRg t2.th)).length) by (simp <;> omega), show (((((smsRg (l.take i) ++ (if t2.nm ≠ [] then [t2.nm] else [])) ++ exsRg (t2.es.take k)) ++ (smsRg t2.th))).map Str) = (((((smsRg (l.take i) ++ (if t2.nm ≠ [] then [t2.nm] else [])) ++ exsRg (t2.es.take k))).map Str) ++ (((smsRg t2.th)).map Str)) by simp [List.map_drop, List.map_take]]; rfl)
      obtain ⟨A11_7, c11_7, rfl⟩ := own_is (f := Str) (l := (((smsRg (l.take i) ++ (if t2.nm ≠ [] then [t2.nm] else [])) ++ exsRg (t2.es.take k)) ++ (smsRg t2.th))) (hM.own 1 rfl)
      refine tX #[true, true, true, true, true, true, true, true, true, true, true, true, true, false, false, false] (by kernel_rfl) ?_
      refine tM [13] (by kernel_rfl) rfl ⟨?_, trivial⟩
      refine sC hK hM 60 #[.slice t2.A3 t2.el.length t2.c3] (by kernel_rfl) (rC en_cantileverref03_all rfl rfl (by kernel_rfl)) ((ih t2 (List.mem_of_getElem? ht2)).2 _ _ _ (et2.els.on hM.below) (by have h9 := sm_sz t2; have h10 := smsSz_one (List.mem_of_getElem? ht2); omega)) ?_
      rintro ⟨A11_13, c11_13⟩ a w - hK hM
      refine tX #[true, true, true, true, true, true, true, true, true, true, true, true, true, true, false, false] (by kernel_rfl) ?_
      refine tM [14] (by kernel_rfl) rfl ⟨?_, trivial⟩
      refine stepAppendS hK hM 61 2 (m := ((smsRg t2.el)).length) (news := (((smsRg t2.el)).map Str)) Tryz.underlying36 elem_str (by kernel_rfl) rfl rfl rfl rfl (own_src (hM.own 0 rfl)) (by simp) (all_one (fun _ => rfl) _) (by have h1 := smsRg_sz (l.take i); have h2 := smsSz_le (l := l) (i := i); have h5 := base_one (p := t2.nm ≠ []) t2.nm; have h6 := sm_sz t2; have h7 := smsSz_one (List.mem_of_getElem? ht2); have h8 := exsRg_sz (t2.es.take k); have h9 := exsSz_le (l := t2.es) (i := k); have h10 := smsRg_sz t2.th; have h11 := smsRg_sz t2.el; (try simp only [List.length_append]); omega) ?_
      intro v30 a w hK hM
      replace hM := hM.to ([.own 9 1 (.slice A11_13 ((smsRg t2.el)).length c11_13) ((smsRg t2.el)).length (((smsRg t2.el)).map Str), .own 9 1 (.slice A11_6 ((smsRg t2.th)).length c11_6) ((smsRg t2.th)).length (((smsRg t2.th)).map Str), .own 9 1 v30 (((((smsRg (l.take i) ++ (if t2.nm ≠ [] then [t2.nm] else [])) ++ exsRg (t2.es.take k)) ++ (smsRg t2.th)) ++ (smsRg t2.el))).length ((((((smsRg (l.take i) ++ (if t2.nm ≠ [] then [t2.nm] else [])) ++ exsRg (t2.es.take k)) ++ (smsRg t2.th)) ++ (smsRg t2.el))).map Str), .row b4 9 [Str t2.nm]]) (by rw [show (((((smsRg (l.take i) ++ (if t2.nm ≠ [] then [t2.nm] else [])) ++ exsRg (t2.es.take k)) ++ (smsRg t2.th)) ++ (smsRg t2.el))).length = (((((smsRg (l.take i) ++ (if t2.nm ≠ [] then [t2.nm] else [])) ++ exsRg (t2.es.take k)) ++ (smsRg t2.th))).length + ((smsRg t2.el)).length) by (simp <;> omega), show ((((((smsRg (l.take i) ++ (if t2.nm ≠ [] then [t2.nm] else [])) ++ exsRg (t2.es.take k)) ++ (smsRg t2.th)) ++ (smsRg t2.el))).map Str) = ((((((smsRg (l.take i) ++ (if t2.nm ≠ [] then [t2.nm] else [])) ++ exsRg (t2.es.take k)) ++ (smsRg t2.th))).map Str) ++ (((smsRg t2.el)).map Str)) by simp [List.map_drop, List.map_take]]; rfl)
      obtain ⟨A11_14, c11_14, rfl⟩ := own_is (f := Str) (l := ((((smsRg (l.take i) ++ (if t2.nm ≠ [] then [t2.nm] else [])) ++ exsRg (t2.es.take k)) ++ (smsRg t2.th)) ++ (smsRg t2.el))) (hM.own 2 rfl)
      refine tX #[true, true, true, true, true, true, true, true, true, true, true, true, true, true, true, false] (by kernel_rfl) ?_
      refine tP hK 15 3 (.slice A11_14 (((((smsRg (l.take i) ++ (if t2.nm ≠ [] then [t2.nm] else [])) ++ exsRg (t2.es.take k)) ++ (smsRg t2.th)) ++ (smsRg t2.el))).length c11_14) (by kernel_rfl) (by kernel_rfl) (by kernel_rfl) (fun w => (by kernel_rfl)) #[true, true, true, true, true, true, true, true, true, true, true, true, true, true, true, true] (by kernel_rfl) fun a hK => ?_
      exact treeE (by kernel_rfl) ⟨A11_13, A11_14, A11_6, A11_7, c11_13, c11_14, c11_6, c11_7, hK.sub ⟨rfl, rfl, rfl, rfl, rfl, rfl, rfl, rfl, trivial⟩, hM⟩
    rintro a w ⟨A11_13, A11_14, A11_6, A11_7, c11_13, c11_14, c11_6, c11_7, hK, hM⟩
    refine rg3 (by kernel_rfl) ?_
    refine sM hK 10 4 (by kernel_rfl) (.inl rfl) rfl fun a hK => ?_
    refine sP hK 11 (.int .i64 (((i + 1) : Nat) : Int)) (by kernel_rfl) (run_addN (i := i) (j := 1) rfl rfl rfl (by omega)) fun a hK => ?_
    refine sM hK 4 11 (by kernel_rfl) (.inr rfl) rfl fun a hK => ?_
    refine rps ?_
    have hL9 : ((((smsRg (l.take i) ++ (if t2.nm ≠ [] then [t2.nm] else [])) ++ exsRg (t2.es.take k)) ++ (smsRg t2.th)) ++ (smsRg t2.el)) = (smsRg (l.take (i + 1))) := (by rw [smsRg_take ht2, sm_rg, show t2.es.take k = t2.es from List.take_of_length_le (by omega)]; simp only [List.append_assoc])
    rw [hL9] at hM; try rw [hL9] at hK
    clear hL9
    replace hM := hM.to ([.own 9 1 (.slice A11_13 ((smsRg t2.el)).length c11_13) ((smsRg t2.el)).length (((smsRg t2.el)).map Str), .own 9 1 (.slice A11_6 ((smsRg t2.th)).length c11_6) ((smsRg t2.th)).length (((smsRg t2.th)).map Str), .own 9 1 (.slice A11_14 ((smsRg (l.take (i + 1)))).length c11_14) ((smsRg (l.take (i + 1)))).length (((smsRg (l.take (i + 1)))).map Str), .row b4 9 [Str t2.nm]]) (by kernel_rfl)
    replace hM := (hM.order [[.own 9 1 (.slice A11_13 ((smsRg t2.el)).length c11_13) ((smsRg t2.el)).length (((smsRg t2.el)).map Str)], [.own 9 1 (.slice A11_6 ((smsRg t2.th)).length c11_6) ((smsRg t2.th)).length (((smsRg t2.th)).map Str)], [.own 9 1 (.slice A11_14 ((smsRg (l.take (i + 1)))).length c11_14) ((smsRg (l.take (i + 1)))).length (((smsRg (l.take (i + 1)))).map Str)], [.row b4 9 [Str t2.nm]]] [0, 1, 3, 2] 4 rfl (by simp) (by decide) ([.own 9 1 (.slice A11_13 ((smsRg t2.el)).length c11_13) ((smsRg t2.el)).length (((smsRg t2.el)).map Str), .own 9 1 (.slice A11_6 ((smsRg t2.th)).length c11_6) ((smsRg t2.th)).length (((smsRg t2.th)).map Str), .row b4 9 [Str t2.nm], .own 9 1 (.slice A11_14 ((smsRg (l.take (i + 1)))).length c11_14) ((smsRg (l.take (i + 1)))).length (((smsRg (l.take (i + 1)))).map Str)]) (by simp)).drop 3
    replace hM := hM.to ([.own 9 1 (.slice A11_14 ((smsRg (l.take (i + 1)))).length c11_14) ((smsRg (l.take (i + 1)))).length (((smsRg (l.take (i + 1)))).map Str)]) (by kernel_rfl)
    have hRn : (i + 1) ≤ l.length := (by omega)
    have hmn : l.length - (i + 1) < l.length - i := by omega
    exact ⟨(i + 1, A11_14, c11_14), hK.sub ⟨rfl, rfl, rfl, rfl, trivial⟩, hM, hRn, hmn⟩
  ·refine sP hK 17 (.bool false) (by kernel_rfl) (oB (b := (!(decide (t2.nm = [])))) (run_neS rfl rfl rfl) h3) fun a hK => ?_
   refine rps ?_
   refine wp_cond_false (hK.get rfl) ?_
   refine wp_skip ?_
   refine wp_seq ?_
   refine wp_seq ?_
   refine rg1 (by kernel_rfl) ?_
   refine sP hK 5 (.int .i64 0) (by kernel_rfl) (by kernel_rfl) fun a hK => ?_
   refine rps ?_
   refine wp_block ?_
   have hL9 : (smsRg (l.take i)) = ((smsRg (l.take i) ++ (if t2.nm ≠ [] then [t2.nm] else [])) ++ exsRg (t2.es.take 0)) := (by have g0 := h3; simp only [Bool.not_eq_true', decide_eq_false_iff_not, Bool.not_eq_false', decide_eq_true_eq] at g0; simp [exsRg, g0])
   rw [hL9] at hM; try rw [hL9] at hK
   clear hL9
   replace hM := hM.to ([.own 9 1 (.slice A1 (((smsRg (l.take i) ++ (if t2.nm ≠ [] then [t2.nm] else [])) ++ exsRg (t2.es.take 0))).length c1) (((smsRg (l.take i) ++ (if t2.nm ≠ [] then [t2.nm] else [])) ++ exsRg (t2.es.take 0))).length ((((smsRg (l.take i) ++ (if t2.nm ≠ [] then [t2.nm] else [])) ++ exsRg (t2.es.take 0))).map Str)]) (by kernel_rfl)
   replace hM := hM
   replace hM := hM.to ([.own 9 1 (.slice A1 (((smsRg (l.take i) ++ (if t2.nm ≠ [] then [t2.nm] else [])) ++ exsRg (t2.es.take 0))).length c1) (((smsRg (l.take i) ++ (if t2.nm ≠ [] then [t2.nm] else [])) ++ exsRg (t2.es.take 0))).length ((((smsRg (l.take i) ++ (if t2.nm ≠ [] then [t2.nm] else [])) ++ exsRg (t2.es.take 0))).map Str)]) (by kernel_rfl)
   refine wLX (fun x : Nat × (Option Addr) × Nat => [(17, .bool false), (9, .bool true), (2, .slice none 0 0), (0, .slice A l.length c), (4, vN i), (5, .int .i64 ((x.1 : Nat) : Int)), (3, .slice x.2.1 (((smsRg (l.take i) ++ (if t2.nm ≠ [] then [t2.nm] else [])) ++ exsRg (t2.es.take x.1))).length x.2.2)]) (fun x : Nat × (Option Addr) × Nat => [.own 9 1 (.slice x.2.1 (((smsRg (l.take i) ++ (if t2.nm ≠ [] then [t2.nm] else [])) ++ exsRg (t2.es.take x.1))).length x.2.2) (((smsRg (l.take i) ++ (if t2.nm ≠ [] then [t2.nm] else [])) ++ exsRg (t2.es.take x.1))).length ((((smsRg (l.take i) ++ (if t2.nm ≠ [] then [t2.nm] else [])) ++ exsRg (t2.es.take x.1))).map Str)]) (fun x : Nat × (Option Addr) × Nat => x.1 ≤ t2.es.length) (fun x : Nat × (Option Addr) × Nat => t2.es.length - x.1) (0, A1, c1) (hK.sub ⟨rfl, rfl, rfl, rfl, rfl, rfl, rfl, trivial⟩) hM (Nat.zero_le _) ?_
   rintro ⟨k, A2, c2⟩ a w hK hM hR
   replace hK : Knows a 63 [(17, .bool false), (9, .bool true), (2, .slice none 0 0), (0, .slice A l.length c), (4, vN i), (5, vN k), (3, .slice A2 (((smsRg (l.take i) ++ (if t2.nm ≠ [] then [t2.nm] else [])) ++ exsRg (t2.es.take k))).length c2)] := hK
   replace hM : Mem w0 w [.own 9 1 (.slice A2 (((smsRg (l.take i) ++ (if t2.nm ≠ [] then [t2.nm] else [])) ++ exsRg (t2.es.take k))).length c2) (((smsRg (l.take i) ++ (if t2.nm ≠ [] then [t2.nm] else [])) ++ exsRg (t2.es.take k))).length ((((smsRg (l.take i) ++ (if t2.nm ≠ [] then [t2.nm] else [])) ++ exsRg (t2.es.take k))).map Str)] := hM
   replace hR : k ≤ t2.es.length := hR
   refine wp_seq ?_
   refine wp_seq ?_
   refine rg8 (by kernel_rfl) ?_
   refine sM hK 26 5 (by kernel_rfl) (.inl rfl) rfl fun a hK => ?_
   refine sM hK 27 0 (by kernel_rfl) (.inl rfl) rfl fun a hK => ?_
   refine sM hK 28 4 (by kernel_rfl) (.inl rfl) rfl fun a hK => ?_
   refine sP hK 29 (.pointer (some (at2.add (i * 7)))) (by kernel_rfl) (rX (k := i) (s := 7) rfl rfl At2 rfl Tryz.underlying38 (by kernel_rfl) (by omega)) fun a hK => ?_
   refine sP hK 30 (.pointer (some ((at2.add (i * 7)).add 4))) (by kernel_rfl) (by kernel_rfl) fun a hK => ?_
   refine sL hK 31 (.slice t2.A1 t2.es.length t2.c1) (by kernel_rfl) rfl rfl (((ct2.on hM.below)).addA 4 1 (by decide)) (by kernel_rfl) fun a hK => ?_
   refine sP hK 32 (.int .i64 ((t2.es.length : Nat) : Int)) (by kernel_rfl) (by kernel_rfl) fun a hK => ?_
   by_cases h31 : (((k : Nat) : Int) : Int) < ((t2.es.length : Nat) : Int)
   ·refine sP hK 33 (.bool true) (by kernel_rfl) (oB (b := (decide ((((k : Nat) : Int) : Int) < ((t2.es.length : Nat) : Int)))) (by kernel_rfl) (decide_eq_true h31)) fun a hK => ?_
    refine rps ?_
    refine wp_cond_true (hK.get rfl) ?_
    refine wp_skip ?_
    refine wp_seq ?_
    refine wp_block ?_
    refine rg12 (by kernel_rfl) ?_
    refine sM hK 36 3 (by kernel_rfl) (.inl rfl) rfl fun a hK => ?_
    refine sM hK 37 0 (by kernel_rfl) (.inl rfl) rfl fun a hK => ?_
    refine sM hK 38 4 (by kernel_rfl) (.inl rfl) rfl fun a hK => ?_
    refine sP hK 39 (.pointer (some (at2.add (i * 7)))) (by kernel_rfl) (rX (k := i) (s := 7) rfl rfl At2 rfl Tryz.underlying38 (by kernel_rfl) (by omega)) fun a hK => ?_
    refine sP hK 40 (.pointer (some ((at2.add (i * 7)).add 4))) (by kernel_rfl) (by kernel_rfl) fun a hK => ?_
    refine sL hK 41 (.slice t2.A1 t2.es.length t2.c1) (by kernel_rfl) rfl rfl (((ct2.on hM.below)).addA 4 1 (by decide)) (by kernel_rfl) fun a hK => ?_
    refine sM hK 42 5 (by kernel_rfl) (.inl rfl) rfl fun a hK => ?_
    obtain ⟨t32, ht32⟩ : ∃ t, t2.es[(k : Nat)]? = some t := ⟨_, List.getElem?_eq_getElem (by omega)⟩
    obtain ⟨⟨at32, At32, ct32⟩, et32⟩ := et2.exprs _ _ ht32; have nt32 := et32.len
    refine sP hK 43 (.pointer (some (at32.add (k * 4)))) (by kernel_rfl) (rX (k := k) (s := 4) rfl rfl At32 rfl Tryz.underlying26 (by kernel_rfl) (by omega)) fun a hK => ?_
    refine sL hK 44 (vE t32) (by kernel_rfl) rfl rfl ((ct32.on hM.below)) (by kernel_rfl) fun a hK => ?_
    refine sC hK hM 45 #[vE t32] (by kernel_rfl) (rC en_cantileverref03_regs rfl rfl (by kernel_rfl)) (ref_regs t32 _ (et32.on hM.below) (by have h8 := exsSz_mem (List.mem_of_getElem? ht32); have h9 := sm_sz t2; have h10 := smsSz_one (List.mem_of_getElem? ht2); omega)) ?_
    rintro ⟨A33, c34⟩ a w - hK hM
    refine stepAppendS hK hM 46 1 (m := (t32.rg).length) (news := ((t32.rg).map Str)) Tryz.underlying36 elem_str (by kernel_rfl) rfl rfl rfl rfl (own_src (hM.own 0 rfl)) (by simp) (all_one (fun _ => rfl) _) (by have h1 := smsRg_sz (l.take i); have h2 := smsSz_le (l := l) (i := i); have h5 := base_one (p := t2.nm ≠ []) t2.nm; have h6 := sm_sz t2; have h7 := smsSz_one (List.mem_of_getElem? ht2); have h8 := exsRg_sz (t2.es.take k); have h9 := exsSz_le (l := t2.es) (i := k); have h10 := rg_sz t32; have h11 := exsSz_mem (List.mem_of_getElem? ht32); (try simp only [List.length_append]); omega) ?_
    intro v36 a w hK hM
    replace hM := hM.to ([.own 9 1 (.slice A33 (t32.rg).length c34) (t32.rg).length ((t32.rg).map Str), .own 9 1 v36 ((((smsRg (l.take i) ++ (if t2.nm ≠ [] then [t2.nm] else [])) ++ exsRg (t2.es.take k)) ++ t32.rg)).length (((((smsRg (l.take i) ++ (if t2.nm ≠ [] then [t2.nm] else [])) ++ exsRg (t2.es.take k)) ++ t32.rg)).map Str)]) (by rw [show ((((smsRg (l.take i) ++ (if t2.nm ≠ [] then [t2.nm] else [])) ++ exsRg (t2.es.take k)) ++ t32.rg)).length = ((((smsRg (l.take i) ++ (if t2.nm ≠ [] then [t2.nm] else [])) ++ exsRg (t2.es.take k))).length + (t32.rg).length) by (simp <;> omega), show (((((smsRg (l.take i) ++ (if t2.nm ≠ [] then [t2.nm] else [])) ++ exsRg (t2.es.take k)) ++ t32.rg)).map Str) = (((((smsRg (l.take i) ++ (if t2.nm ≠ [] then [t2.nm] else [])) ++ exsRg (t2.es.take k))).map Str) ++ ((t32.rg).map Str)) by simp [List.map_drop, List.map_take]]; rfl)
    obtain ⟨A37, c38, rfl⟩ := own_is (f := Str) (l := (((smsRg (l.take i) ++ (if t2.nm ≠ [] then [t2.nm] else [])) ++ exsRg (t2.es.take k)) ++ t32.rg)) (hM.own 1 rfl)
    refine sM hK 3 46 (by kernel_rfl) (.inr rfl) rfl fun a hK => ?_
    refine rps ?_
    refine rg3 (by kernel_rfl) ?_
    refine sM hK 34 5 (by kernel_rfl) (.inl rfl) rfl fun a hK => ?_
    refine sP hK 35 (.int .i64 (((k + 1) : Nat) : Int)) (by kernel_rfl) (run_addN (i := k) (j := 1) rfl rfl rfl (by omega)) fun a hK => ?_
    refine sM hK 5 35 (by kernel_rfl) (.inr rfl) rfl fun a hK => ?_
    refine rps ?_
    have hL9 : (((smsRg (l.take i) ++ (if t2.nm ≠ [] then [t2.nm] else [])) ++ exsRg (t2.es.take k)) ++ t32.rg) = ((smsRg (l.take i) ++ (if t2.nm ≠ [] then [t2.nm] else [])) ++ exsRg (t2.es.take (k + 1))) := (by rw [exsRg_take ht32, List.append_assoc])
    rw [hL9] at hM; try rw [hL9] at hK
    clear hL9
    replace hM := hM.to ([.own 9 1 (.slice A33 (t32.rg).length c34) (t32.rg).length ((t32.rg).map Str), .own 9 1 (.slice A37 (((smsRg (l.take i) ++ (if t2.nm ≠ [] then [t2.nm] else [])) ++ exsRg (t2.es.take (k + 1)))).length c38) (((smsRg (l.take i) ++ (if t2.nm ≠ [] then [t2.nm] else [])) ++ exsRg (t2.es.take (k + 1)))).length ((((smsRg (l.take i) ++ (if t2.nm ≠ [] then [t2.nm] else [])) ++ exsRg (t2.es.take (k + 1)))).map Str)]) (by kernel_rfl)
    replace hM := hM.drop 1
    replace hM := hM.to ([.own 9 1 (.slice A37 (((smsRg (l.take i) ++ (if t2.nm ≠ [] then [t2.nm] else [])) ++ exsRg (t2.es.take (k + 1)))).length c38) (((smsRg (l.take i) ++ (if t2.nm ≠ [] then [t2.nm] else [])) ++ exsRg (t2.es.take (k + 1)))).length ((((smsRg (l.take i) ++ (if t2.nm ≠ [] then [t2.nm] else [])) ++ exsRg (t2.es.take (k + 1)))).map Str)]) (by kernel_rfl)
    have hRn : (k + 1) ≤ t2.es.length := (by omega)
    have hmn : t2.es.length - (k + 1) < t2.es.length - k := by omega
    exact ⟨(k + 1, A37, c38), hK.sub ⟨rfl, rfl, rfl, rfl, rfl, rfl, rfl, trivial⟩, hM, hRn, hmn⟩
   ·refine sP hK 33 (.bool false) (by kernel_rfl) (oB (b := (decide ((((k : Nat) : Int) : Int) < ((t2.es.length : Nat) : Int)))) (by kernel_rfl) (decide_eq_false h31)) fun a hK => ?_
    refine rps ?_
    refine wp_cond_false (hK.get rfl) ?_
    refine wp_exit (exit_then (exit_then (exit_here 2 ?_)))
    refine wp_cut (fun a w => ∃ (A11_13 : Option Addr), ∃ (A11_14 : Option Addr), ∃ (A11_6 : Option Addr), ∃ (A11_7 : Option Addr), ∃ (c11_13 : Nat), ∃ (c11_14 : Nat), ∃ (c11_6 : Nat), ∃ (c11_7 : Nat), Knows a 63 [(3, .slice A11_14 (((((smsRg (l.take i) ++ (if t2.nm ≠ [] then [t2.nm] else [])) ++ exsRg (t2.es.take k)) ++ (smsRg t2.th)) ++ (smsRg t2.el))).length c11_14), (33, .bool false), (17, .bool false), (9, .bool true), (2, .slice none 0 0), (0, .slice A l.length c), (4, vN i), (5, vN k)] ∧ Mem w0 w [.own 9 1 (.slice A11_13 ((smsRg t2.el)).length c11_13) ((smsRg t2.el)).length (((smsRg t2.el)).map Str), .own 9 1 (.slice A11_6 ((smsRg t2.th)).length c11_6) ((smsRg t2.th)).length (((smsRg t2.th)).map Str), .own 9 1 (.slice A11_14 (((((smsRg (l.take i) ++ (if t2.nm ≠ [] then [t2.nm] else [])) ++ exsRg (t2.es.take k)) ++ (smsRg t2.th)) ++ (smsRg t2.el))).length c11_14) (((((smsRg (l.take i) ++ (if t2.nm ≠ [] then [t2.nm] else [])) ++ exsRg (t2.es.take k)) ++ (smsRg t2.th)) ++ (smsRg t2.el))).length ((((((smsRg (l.take i) ++ (if t2.nm ≠ [] then [t2.nm] else [])) ++ exsRg (t2.es.take k)) ++ (smsRg t2.th)) ++ (smsRg t2.el))).map Str)]) ?_ ?_
    ·refine region_tree hM (by kernel_rfl) 16 (by kernel_rfl) #[false, false, false, false, false, false, false, false, false, false, false, false, false, false, false, false] (by kernel_rfl) ?_
     clear hM; intro w hM
     refine tP hK 0 47 (.slice A2 (((smsRg (l.take i) ++ (if t2.nm ≠ [] then [t2.nm] else [])) ++ exsRg (t2.es.take k))).length c2) (by kernel_rfl) (by kernel_rfl) (by kernel_rfl) (fun w => (by kernel_rfl)) #[true, false, false, false, false, false, false, false, false, false, false, false, false, false, false, false] (by kernel_rfl) fun a hK => ?_
     refine tP hK 1 48 (.slice A l.length c) (by kernel_rfl) (by kernel_rfl) (by kernel_rfl) (fun w => (by kernel_rfl)) #[true, true, false, false, false, false, false, false, false, false, false, false, false, false, false, false] (by kernel_rfl) fun a hK => ?_
     refine tP hK 2 49 (vN i) (by kernel_rfl) (by kernel_rfl) (by kernel_rfl) (fun w => (by kernel_rfl)) #[true, true, true, false, false, false, false, false, false, false, false, false, false, false, false, false] (by kernel_rfl) fun a hK => ?_
     refine tP hK 3 50 (.pointer (some (at2.add (i * 7)))) (by kernel_rfl) (by kernel_rfl) (by kernel_rfl) (fun w => (rX (k := i) (s := 7) rfl rfl At2 rfl Tryz.underlying38 (by kernel_rfl) (by omega))) #[true, true, true, true, false, false, false, false, false, false, false, false, false, false, false, false] (by kernel_rfl) fun a hK => ?_
     refine tP hK 4 51 (.pointer (some ((at2.add (i * 7)).add 5))) (by kernel_rfl) (by kernel_rfl) (by kernel_rfl) (fun w => (by kernel_rfl)) #[true, true, true, true, true, false, false, false, false, false, false, false, false, false, false, false] (by kernel_rfl) fun a hK => ?_
     refine tP hK 8 55 (.slice A l.length c) (by kernel_rfl) (by kernel_rfl) (by kernel_rfl) (fun w => (by kernel_rfl)) #[true, true, true, true, true, false, false, false, true, false, false, false, false, false, false, false] (by kernel_rfl) fun a hK => ?_
     refine tP hK 9 56 (vN i) (by kernel_rfl) (by kernel_rfl) (by kernel_rfl) (fun w => (by kernel_rfl)) #[true, true, true, true, true, false, false, false, true, true, false, false, false, false, false, false] (by kernel_rfl) fun a hK => ?_
     refine tP hK 10 57 (.pointer (some (at2.add (i * 7)))) (by kernel_rfl) (by kernel_rfl) (by kernel_rfl) (fun w => (rX (k := i) (s := 7) rfl rfl At2 rfl Tryz.underlying38 (by kernel_rfl) (by omega))) #[true, true, true, true, true, false, false, false, true, true, true, false, false, false, false, false] (by kernel_rfl) fun a hK => ?_
     refine tP hK 11 58 (.pointer (some ((at2.add (i * 7)).add 6))) (by kernel_rfl) (by kernel_rfl) (by kernel_rfl) (fun w => (by kernel_rfl)) #[true, true, true, true, true, false, false, false, true, true, true, true, false, false, false, false] (by kernel_rfl) fun a hK => ?_
     refine tM [5, 12] (by kernel_rfl) rfl ⟨?_, ?_, trivial⟩
     ·refine sL hK 52 (.slice t2.A2 t2.th.length t2.c2) (by kernel_rfl) rfl rfl (((ct2.on hM.below)).addA 5 1 (by decide)) (by kernel_rfl) fun a hK => ?_
      refine tX #[true, true, true, true, true, true, false, false, true, true, true, true, false, false, false, false] (by kernel_rfl) ?_
      refine tM [6, 12] (by kernel_rfl) rfl ⟨?_, ?_, trivial⟩
      ·refine sC hK hM 53 #[.slice t2.A2 t2.th.length t2.c2] (by kernel_rfl) (rC en_cantileverref03_all rfl rfl (by kernel_rfl)) ((ih t2 (List.mem_of_getElem? ht2)).1 _ _ _ (et2.thn.on hM.below) (by have h9 := sm_sz t2; have h10 := smsSz_one (List.mem_of_getElem? ht2); omega)) ?_
       rintro ⟨A11_6, c11_6⟩ a w - hK hM
       refine tX #[true, true, true, true, true, true, true, false, true, true, true, true, false, false, false, false] (by kernel_rfl) ?_
       refine tM [7, 12] (by kernel_rfl) rfl ⟨?_, ?_, trivial⟩
       ·refine stepAppendS hK hM 54 1 (m := ((smsRg t2.th)).length) (news := (((smsRg t2.th)).map Str)) Tryz.underlying36 elem_str (by kernel_rfl) rfl rfl rfl rfl (own_src (hM.own 0 rfl)) (by simp) (all_one (fun _ => rfl) _) (by have h1 := smsRg_sz (l.take i); have h2 := smsSz_le (l := l) (i := i); have h5 := base_one (p := t2.nm ≠ []) t2.nm; have h6 := sm_sz t2; have h7 := smsSz_one (List.mem_of_getElem? ht2); have h8 := exsRg_sz (t2.es.take k); have h9 := exsSz_le (l := t2.es) (i := k); have h10 := smsRg_sz t2.th; have h11 := smsRg_sz t2.el; (try simp only [List.length_append]); omega) ?_
        intro v40 a w hK hM
        replace hM := hM.to ([.own 9 1 (.slice A11_6 ((smsRg t2.th)).length c11_6) ((smsRg t2.th)).length (((smsRg t2.th)).map Str), .own 9 1 v40 ((((smsRg (l.take i) ++ (if t2.nm ≠ [] then [t2.nm] else [])) ++ exsRg (t2.es.take k)) ++ (smsRg t2.th))).length (((((smsRg (l.take i) ++ (if t2.nm ≠ [] then [t2.nm] else [])) ++ exsRg (t2.es.take k)) ++ (smsRg t2.th))).map Str)]) (by rw [show ((((smsRg (l.take i) ++ (if t2.nm ≠ [] then [t2.nm] else [])) ++ exsRg (t2.es.take k)) ++ (smsRg t2.th))).length = ((((smsRg (l.take i) ++ (if t2.nm ≠ [] then [t2.nm] else [])) ++ exsRg (t2.es.take k))).length + ((smsRg t2.th)).length) by (simp <;> omega), show (((((smsRg (l.take i) ++ (if t2.nm ≠ [] then [t2.nm] else [])) ++ exsRg (t2.es.take k)) ++ (smsRg t2.th))).map Str) = (((((smsRg (l.take i) ++ (if t2.nm ≠ [] then [t2.nm] else [])) ++ exsRg (t2.es.take k))).map Str) ++ (((smsRg t2.th)).map Str)) by simp [List.map_drop, List.map_take]]; rfl)
        obtain ⟨A11_7, c11_7, rfl⟩ := own_is (f := Str) (l := (((smsRg (l.take i) ++ (if t2.nm ≠ [] then [t2.nm] else [])) ++ exsRg (t2.es.take k)) ++ (smsRg t2.th))) (hM.own 1 rfl)
        refine tX #[true, true, true, true, true, true, true, true, true, true, true, true, false, false, false, false] (by kernel_rfl) ?_
        refine tM [12] (by kernel_rfl) rfl ⟨?_, trivial⟩
        refine sL hK 59 (.slice t2.A3 t2.el.length t2.c3) (by kernel_rfl) rfl rfl (((ct2.on hM.below)).addA 6 1 (by decide)) (by kernel_rfl) fun a hK => ?_
        refine tX #[true, true, true, true, true, true, true, true, true, true, true, true, true, false, false, false] (by kernel_rfl) ?_
        refine tM [13] (by kernel_rfl) rfl ⟨?_, trivial⟩
        refine sC hK hM 60 #[.slice t2.A3 t2.el.length t2.c3] (by kernel_rfl) (rC en_cantileverref03_all rfl rfl (by kernel_rfl)) ((ih t2 (List.mem_of_getElem? ht2)).2 _ _ _ (et2.els.on hM.below) (by have h9 := sm_sz t2; have h10 := smsSz_one (List.mem_of_getElem? ht2); omega)) ?_
        rintro ⟨A11_13, c11_13⟩ a w - hK hM
        refine tX #[true, true, true, true, true, true, true, true, true, true, true, true, true, true, false, false] (by kernel_rfl) ?_
        refine tM [14] (by kernel_rfl) rfl ⟨?_, trivial⟩
        refine stepAppendS hK hM 61 2 (m := ((smsRg t2.el)).length) (news := (((smsRg t2.el)).map Str)) Tryz.underlying36 elem_str (by kernel_rfl) rfl rfl rfl rfl (own_src (hM.own 0 rfl)) (by simp) (all_one (fun _ => rfl) _) (by have h1 := smsRg_sz (l.take i); have h2 := smsSz_le (l := l) (i := i); have h5 := base_one (p := t2.nm ≠ []) t2.nm; have h6 := sm_sz t2; have h7 := smsSz_one (List.mem_of_getElem? ht2); have h8 := exsRg_sz (t2.es.take k); have h9 := exsSz_le (l := t2.es) (i := k); have h10 := smsRg_sz t2.th; have h11 := smsRg_sz t2.el; (try simp only [List.length_append]); omega) ?_
        intro v42 a w hK hM
        replace hM := hM.to ([.own 9 1 (.slice A11_13 ((smsRg t2.el)).length c11_13) ((smsRg t2.el)).length (((smsRg t2.el)).map Str), .own 9 1 (.slice A11_6 ((smsRg t2.th)).length c11_6) ((smsRg t2.th)).length (((smsRg t2.th)).map Str), .own 9 1 v42 (((((smsRg (l.take i) ++ (if t2.nm ≠ [] then [t2.nm] else [])) ++ exsRg (t2.es.take k)) ++ (smsRg t2.th)) ++ (smsRg t2.el))).length ((((((smsRg (l.take i) ++ (if t2.nm ≠ [] then [t2.nm] else [])) ++ exsRg (t2.es.take k)) ++ (smsRg t2.th)) ++ (smsRg t2.el))).map Str)]) (by rw [show (((((smsRg (l.take i) ++ (if t2.nm ≠ [] then [t2.nm] else [])) ++ exsRg (t2.es.take k)) ++ (smsRg t2.th)) ++ (smsRg t2.el))).length = (((((smsRg (l.take i) ++ (if t2.nm ≠ [] then [t2.nm] else [])) ++ exsRg (t2.es.take k)) ++ (smsRg t2.th))).length + ((smsRg t2.el)).length) by (simp <;> omega), show ((((((smsRg (l.take i) ++ (if t2.nm ≠ [] then [t2.nm] else [])) ++ exsRg (t2.es.take k)) ++ (smsRg t2.th)) ++ (smsRg t2.el))).map Str) = ((((((smsRg (l.take i) ++ (if t2.nm ≠ [] then [t2.nm] else [])) ++ exsRg (t2.es.take k)) ++ (smsRg t2.th))).map Str) ++ (((smsRg t2.el)).map Str)) by simp [List.map_drop, List.map_take]]; rfl)
        obtain ⟨A11_14, c11_14, rfl⟩ := own_is (f := Str) (l := ((((smsRg (l.take i) ++ (if t2.nm ≠ [] then [t2.nm] else [])) ++ exsRg (t2.es.take k)) ++ (smsRg t2.th)) ++ (smsRg t2.el))) (hM.own 2 rfl)
        refine tX #[true, true, true, true, true, true, true, true, true, true, true, true, true, true, true, false] (by kernel_rfl) ?_
        refine tP hK 15 3 (.slice A11_14 (((((smsRg (l.take i) ++ (if t2.nm ≠ [] then [t2.nm] else [])) ++ exsRg (t2.es.take k)) ++ (smsRg t2.th)) ++ (smsRg t2.el))).length c11_14) (by kernel_rfl) (by kernel_rfl) (by kernel_rfl) (fun w => (by kernel_rfl)) #[true, true, true, true, true, true, true, true, true, true, true, true, true, true, true, true] (by kernel_rfl) fun a hK => ?_
        exact treeE (by kernel_rfl) ⟨A11_13, A11_14, A11_6, A11_7, c11_13, c11_14, c11_6, c11_7, hK.sub ⟨rfl, rfl, rfl, rfl, rfl, rfl, rfl, rfl, trivial⟩, hM⟩
       ·refine sL hK 59 (.slice t2.A3 t2.el.length t2.c3) (by kernel_rfl) rfl rfl (((ct2.on hM.below)).addA 6 1 (by decide)) (by kernel_rfl) fun a hK => ?_
        refine tX #[true, true, true, true, true, true, true, false, true, true, true, true, true, false, false, false] (by kernel_rfl) ?_
        refine tM [7] (by kernel_rfl) rfl ⟨?_, trivial⟩
        refine stepAppendS hK hM 54 1 (m := ((smsRg t2.th)).length) (news := (((smsRg t2.th)).map Str)) Tryz.underlying36 elem_str (by kernel_rfl) rfl rfl rfl rfl (own_src (hM.own 0 rfl)) (by simp) (all_one (fun _ => rfl) _) (by have h1 := smsRg_sz (l.take i); have h2 := smsSz_le (l := l) (i := i); have h5 := base_one (p := t2.nm ≠ []) t2.nm; have h6 := sm_sz t2; have h7 := smsSz_one (List.mem_of_getElem? ht2); have h8 := exsRg_sz (t2.es.take k); have h9 := exsSz_le (l := t2.es) (i := k); have h10 := smsRg_sz t2.th; have h11 := smsRg_sz t2.el; (try simp only [List.length_append]); omega) ?_
        intro v43 a w hK hM
        replace hM := hM.to ([.own 9 1 (.slice A11_6 ((smsRg t2.th)).length c11_6) ((smsRg t2.th)).length (((smsRg t2.th)).map Str), .own 9 1 v43 ((((smsRg (l.take i) ++ (if t2.nm ≠ [] then [t2.nm] else [])) ++ exsRg (t2.es.take k)) ++ (smsRg t2.th))).length (((((smsRg (l.take i) ++ (if t2.nm ≠ [] then [t2.nm] else [])) ++ exsRg (t2.es.take k)) ++ (smsRg t2.th))).map Str)]) (by rw [show ((((smsRg (l.take i) ++ (if t2.nm ≠ [] then [t2.nm] else [])) ++ exsRg (t2.es.take k)) ++ (smsRg t2.th))).length = ((((smsRg (l.take i) ++ (if t2.nm ≠ [] then [t2.nm] else [])) ++ exsRg (t2.es.take k))).length + ((smsRg t2.th)).length) by (simp <;> omega), show (((((smsRg (l.take i) ++ (if t2.nm ≠ [] then [t2.nm] else [])) ++ exsRg (t2.es.take k)) ++ (smsRg t2.th))).map Str) = (((((smsRg (l.take i) ++ (if t2.nm ≠ [] then [t2.nm] else [])) ++ exsRg (t2.es.take k))).map Str) ++ (((smsRg t2.th)).map Str)) by simp [List.map_drop, List.map_take]]; rfl)
        obtain ⟨A11_7, c11_7, rfl⟩ := own_is (f := Str) (l := (((smsRg (l.take i) ++ (if t2.nm ≠ [] then [t2.nm] else [])) ++ exsRg (t2.es.take k)) ++ (smsRg t2.th))) (hM.own 1 rfl)
        refine tX #[true, true, true, true, true, true, true, true, true, true, true, true, true, false, false, false] (by kernel_rfl) ?_
        refine tM [13] (by kernel_rfl) rfl ⟨?_, trivial⟩
        refine sC hK hM 60 #[.slice t2.A3 t2.el.length t2.c3] (by kernel_rfl) (rC en_cantileverref03_all rfl rfl (by kernel_rfl)) ((ih t2 (List.mem_of_getElem? ht2)).2 _ _ _ (et2.els.on hM.below) (by have h9 := sm_sz t2; have h10 := smsSz_one (List.mem_of_getElem? ht2); omega)) ?_
        rintro ⟨A11_13, c11_13⟩ a w - hK hM
        refine tX #[true, true, true, true, true, true, true, true, true, true, true, true, true, true, false, false] (by kernel_rfl) ?_
        refine tM [14] (by kernel_rfl) rfl ⟨?_, trivial⟩
        refine stepAppendS hK hM 61 2 (m := ((smsRg t2.el)).length) (news := (((smsRg t2.el)).map Str)) Tryz.underlying36 elem_str (by kernel_rfl) rfl rfl rfl rfl (own_src (hM.own 0 rfl)) (by simp) (all_one (fun _ => rfl) _) (by have h1 := smsRg_sz (l.take i); have h2 := smsSz_le (l := l) (i := i); have h5 := base_one (p := t2.nm ≠ []) t2.nm; have h6 := sm_sz t2; have h7 := smsSz_one (List.mem_of_getElem? ht2); have h8 := exsRg_sz (t2.es.take k); have h9 := exsSz_le (l := t2.es) (i := k); have h10 := smsRg_sz t2.th; have h11 := smsRg_sz t2.el; (try simp only [List.length_append]); omega) ?_
        intro v45 a w hK hM
        replace hM := hM.to ([.own 9 1 (.slice A11_13 ((smsRg t2.el)).length c11_13) ((smsRg t2.el)).length (((smsRg t2.el)).map Str), .own 9 1 (.slice A11_6 ((smsRg t2.th)).length c11_6) ((smsRg t2.th)).length (((smsRg t2.th)).map Str), .own 9 1 v45 (((((smsRg (l.take i) ++ (if t2.nm ≠ [] then [t2.nm] else [])) ++ exsRg (t2.es.take k)) ++ (smsRg t2.th)) ++ (smsRg t2.el))).length ((((((smsRg (l.take i) ++ (if t2.nm ≠ [] then [t2.nm] else [])) ++ exsRg (t2.es.take k)) ++ (smsRg t2.th)) ++ (smsRg t2.el))).map Str)]) (by rw [show (((((smsRg (l.take i) ++ (if t2.nm ≠ [] then [t2.nm] else [])) ++ exsRg (t2.es.take k)) ++ (smsRg t2.th)) ++ (smsRg t2.el))).length = (((((smsRg (l.take i) ++ (if t2.nm ≠ [] then [t2.nm] else [])) ++ exsRg (t2.es.take k)) ++ (smsRg t2.th))).length + ((smsRg t2.el)).length) by (simp <;> omega), show ((((((smsRg (l.take i) ++ (if t2.nm ≠ [] then [t2.nm] else [])) ++ exsRg (t2.es.take k)) ++ (smsRg t2.th)) ++ (smsRg t2.el))).map Str) = ((((((smsRg (l.take i) ++ (if t2.nm ≠ [] then [t2.nm] else [])) ++ exsRg (t2.es.take k)) ++ (smsRg t2.th))).map Str) ++ (((smsRg t2.el)).map Str)) by simp [List.map_drop, List.map_take]]; rfl)
        obtain ⟨A11_14, c11_14, rfl⟩ := own_is (f := Str) (l := ((((smsRg (l.take i) ++ (if t2.nm ≠ [] then [t2.nm] else [])) ++ exsRg (t2.es.take k)) ++ (smsRg t2.th)) ++ (smsRg t2.el))) (hM.own 2 rfl)
        refine tX #[true, true, true, true, true, true, true, true, true, true, true, true, true, true, true, false] (by kernel_rfl) ?_
        refine tP hK 15 3 (.slice A11_14 (((((smsRg (l.take i) ++ (if t2.nm ≠ [] then [t2.nm] else [])) ++ exsRg (t2.es.take k)) ++ (smsRg t2.th)) ++ (smsRg t2.el))).length c11_14) (by kernel_rfl) (by kernel_rfl) (by kernel_rfl) (fun w => (by kernel_rfl)) #[true, true, true, true, true, true, true, true, true, true, true, true, true, true, true, true] (by kernel_rfl) fun a hK => ?_
        exact treeE (by kernel_rfl) ⟨A11_13, A11_14, A11_6, A11_7, c11_13, c11_14, c11_6, c11_7, hK.sub ⟨rfl, rfl, rfl, rfl, rfl, rfl, rfl, rfl, trivial⟩, hM⟩
      ·refine sL hK 59 (.slice t2.A3 t2.el.length t2.c3) (by kernel_rfl) rfl rfl (((ct2.on hM.below)).addA 6 1 (by decide)) (by kernel_rfl) fun a hK => ?_
       refine tX #[true, true, true, true, true, true, false, false, true, true, true, true, true, false, false, false] (by kernel_rfl) ?_
       refine tM [6] (by kernel_rfl) rfl ⟨?_, trivial⟩
       refine sC hK hM 53 #[.slice t2.A2 t2.th.length t2.c2] (by kernel_rfl) (rC en_cantileverref03_all rfl rfl (by kernel_rfl)) ((ih t2 (List.mem_of_getElem? ht2)).1 _ _ _ (et2.thn.on hM.below) (by have h9 := sm_sz t2; have h10 := smsSz_one (List.mem_of_getElem? ht2); omega)) ?_
       rintro ⟨A11_6, c11_6⟩ a w - hK hM
       refine tX #[true, true, true, true, true, true, true, false, true, true, true, true, true, false, false, false] (by kernel_rfl) ?_
       refine tM [7] (by kernel_rfl) rfl ⟨?_, trivial⟩
       refine stepAppendS hK hM 54 1 (m := ((smsRg t2.th)).length) (news := (((smsRg t2.th)).map Str)) Tryz.underlying36 elem_str (by kernel_rfl) rfl rfl rfl rfl (own_src (hM.own 0 rfl)) (by simp) (all_one (fun _ => rfl) _) (by have h1 := smsRg_sz (l.take i); have h2 := smsSz_le (l := l) (i := i); have h5 := base_one (p := t2.nm ≠ []) t2.nm; have h6 := sm_sz t2; have h7 := smsSz_one (List.mem_of_getElem? ht2); have h8 := exsRg_sz (t2.es.take k); have h9 := exsSz_le (l := t2.es) (i := k); have h10 := smsRg_sz t2.th; have h11 := smsRg_sz t2.el; (try simp only [List.length_append]); omega) ?_
       intro v47 a w hK hM
       replace hM := hM.to ([.own 9 1 (.slice A11_6 ((smsRg t2.th)).length c11_6) ((smsRg t2.th)).length (((smsRg t2.th)).map Str), .own 9 1 v47 ((((smsRg (l.take i) ++ (if t2.nm ≠ [] then [t2.nm] else [])) ++ exsRg (t2.es.take k)) ++ (smsRg t2.th))).length (((((smsRg (l.take i) ++ (if t2.nm ≠ [] then [t2.nm] else [])) ++ exsRg (t2.es.take k)) ++ (smsRg t2.th))).map Str)]) (by rw [show ((((smsRg (l.take i) ++ (if t2.nm ≠ [] then [t2.nm] else [])) ++ exsRg (t2.es.take k)) ++ (smsRg t2.th))).length = ((((smsRg (l.take i) ++ (if t2.nm ≠ [] then [t2.nm] else [])) ++ exsRg (t2.es.take k))).length + ((smsRg t2.th)).length) by (simp <;> omega), show (((((smsRg (l.take i) ++ (if t2.nm ≠ [] then [t2.nm] else [])) ++ exsRg (t2.es.take k)) ++ (smsRg t2.th))).map Str) = (((((smsRg (l.take i) ++ (if t2.nm ≠ [] then [t2.nm] else [])) ++ exsRg (t2.es.take k))).map Str) ++ (((smsRg t2.th)).map Str)) by simp [List.map_drop, List.map_take]]; rfl)
       obtain ⟨A11_7, c11_7, rfl⟩ := own_is (f := Str) (l := (((smsRg (l.take i) ++ (if t2.nm ≠ [] then [t2.nm] else [])) ++ exsRg (t2.es.take k)) ++ (smsRg t2.th))) (hM.own 1 rfl)
       refine tX #[true, true, true, true, true, true, true, true, true, true, true, true, true, false, false, false] (by kernel_rfl) ?_
       refine tM [13] (by kernel_rfl) rfl ⟨?_, trivial⟩
       refine sC hK hM 60 #[.slice t2.A3 t2.el.length t2.c3] (by kernel_rfl) (rC en_cantileverref03_all rfl rfl (by kernel_rfl)) ((ih t2 (List.mem_of_getElem? ht2)).2 _ _ _ (et2.els.on hM.below) (by have h9 := sm_sz t2; have h10 := smsSz_one (List.mem_of_getElem? ht2); omega)) ?_
       rintro ⟨A11_13, c11_13⟩ a w - hK hM
       refine tX #[true, true, true, true, true, true, true, true, true, true, true, true, true, true, false, false] (by kernel_rfl) ?_
       refine tM [14] (by kernel_rfl) rfl ⟨?_, trivial⟩
       refine stepAppendS hK hM 61 2 (m := ((smsRg t2.el)).length) (news := (((smsRg t2.el)).map Str)) Tryz.underlying36 elem_str (by kernel_rfl) rfl rfl rfl rfl (own_src (hM.own 0 rfl)) (by simp) (all_one (fun _ => rfl) _) (by have h1 := smsRg_sz (l.take i); have h2 := smsSz_le (l := l) (i := i); have h5 := base_one (p := t2.nm ≠ []) t2.nm; have h6 := sm_sz t2; have h7 := smsSz_one (List.mem_of_getElem? ht2); have h8 := exsRg_sz (t2.es.take k); have h9 := exsSz_le (l := t2.es) (i := k); have h10 := smsRg_sz t2.th; have h11 := smsRg_sz t2.el; (try simp only [List.length_append]); omega) ?_
       intro v49 a w hK hM
       replace hM := hM.to ([.own 9 1 (.slice A11_13 ((smsRg t2.el)).length c11_13) ((smsRg t2.el)).length (((smsRg t2.el)).map Str), .own 9 1 (.slice A11_6 ((smsRg t2.th)).length c11_6) ((smsRg t2.th)).length (((smsRg t2.th)).map Str), .own 9 1 v49 (((((smsRg (l.take i) ++ (if t2.nm ≠ [] then [t2.nm] else [])) ++ exsRg (t2.es.take k)) ++ (smsRg t2.th)) ++ (smsRg t2.el))).length ((((((smsRg (l.take i) ++ (if t2.nm ≠ [] then [t2.nm] else [])) ++ exsRg (t2.es.take k)) ++ (smsRg t2.th)) ++ (smsRg t2.el))).map Str)]) (by rw [show (((((smsRg (l.take i) ++ (if t2.nm ≠ [] then [t2.nm] else [])) ++ exsRg (t2.es.take k)) ++ (smsRg t2.th)) ++ (smsRg t2.el))).length = (((((smsRg (l.take i) ++ (if t2.nm ≠ [] then [t2.nm] else [])) ++ exsRg (t2.es.take k)) ++ (smsRg t2.th))).length + ((smsRg t2.el)).length) by (simp <;> omega), show ((((((smsRg (l.take i) ++ (if t2.nm ≠ [] then [t2.nm] else [])) ++ exsRg (t2.es.take k)) ++ (smsRg t2.th)) ++ (smsRg t2.el))).map Str) = ((((((smsRg (l.take i) ++ (if t2.nm ≠ [] then [t2.nm] else [])) ++ exsRg (t2.es.take k)) ++ (smsRg t2.th))).map Str) ++ (((smsRg t2.el)).map Str)) by simp [List.map_drop, List.map_take]]; rfl)
       obtain ⟨A11_14, c11_14, rfl⟩ := own_is (f := Str) (l := ((((smsRg (l.take i) ++ (if t2.nm ≠ [] then [t2.nm] else [])) ++ exsRg (t2.es.take k)) ++ (smsRg t2.th)) ++ (smsRg t2.el))) (hM.own 2 rfl)
       refine tX #[true, true, true, true, true, true, true, true, true, true, true, true, true, true, true, false] (by kernel_rfl) ?_
       refine tP hK 15 3 (.slice A11_14 (((((smsRg (l.take i) ++ (if t2.nm ≠ [] then [t2.nm] else [])) ++ exsRg (t2.es.take k)) ++ (smsRg t2.th)) ++ (smsRg t2.el))).length c11_14) (by kernel_rfl) (by kernel_rfl) (by kernel_rfl) (fun w => (by kernel_rfl)) #[true, true, true, true, true, true, true, true, true, true, true, true, true, true, true, true] (by kernel_rfl) fun a hK => ?_
       exact treeE (by kernel_rfl) ⟨A11_13, A11_14, A11_6, A11_7, c11_13, c11_14, c11_6, c11_7, hK.sub ⟨rfl, rfl, rfl, rfl, rfl, rfl, rfl, rfl, trivial⟩, hM⟩
     ·refine sL hK 59 (.slice t2.A3 t2.el.length t2.c3) (by kernel_rfl) rfl rfl (((ct2.on hM.below)).addA 6 1 (by decide)) (by kernel_rfl) fun a hK => ?_
      refine tX #[true, true, true, true, true, false, false, false, true, true, true, true, true, false, false, false] (by kernel_rfl) ?_
      refine tM [5] (by kernel_rfl) rfl ⟨?_, trivial⟩
      refine sL hK 52 (.slice t2.A2 t2.th.length t2.c2) (by kernel_rfl) rfl rfl (((ct2.on hM.below)).addA 5 1 (by decide)) (by kernel_rfl) fun a hK => ?_
      refine tX #[true, true, true, true, true, true, false, false, true, true, true, true, true, false, false, false] (by kernel_rfl) ?_
      refine tM [6] (by kernel_rfl) rfl ⟨?_, trivial⟩
      refine sC hK hM 53 #[.slice t2.A2 t2.th.length t2.c2] (by kernel_rfl) (rC en_cantileverref03_all rfl rfl (by kernel_rfl)) ((ih t2 (List.mem_of_getElem? ht2)).1 _ _ _ (et2.thn.on hM.below) (by have h9 := sm_sz t2; have h10 := smsSz_one (List.mem_of_getElem? ht2); omega)) ?_
      rintro ⟨A11_6, c11_6⟩ a w - hK hM
      refine tX #[true, true, true, true, true, true, true, false, true, true, true, true, true, false, false, false] (by kernel_rfl) ?_
      refine tM [7] (by kernel_rfl) rfl ⟨?_, trivial⟩
      refine stepAppendS hK hM 54 1 (m := ((smsRg t2.th)).length) (news := (((smsRg t2.th)).map Str)) Tryz.underlying36 elem_str (by kernel_rfl) rfl rfl rfl rfl (own_src (hM.own 0 rfl)) (by simp) (all_one (fun _ => rfl) _) (by have h1 := smsRg_sz (l.take i); have h2 := smsSz_le (l := l) (i := i); have h5 := base_one (p := t2.nm ≠ []) t2.nm; have h6 := sm_sz t2; have h7 := smsSz_one (List.mem_of_getElem? ht2); have h8 := exsRg_sz (t2.es.take k); have h9 := exsSz_le (l := t2.es) (i := k); have h10 := smsRg_sz t2.th; have h11 := smsRg_sz t2.el; (try simp only [List.length_append]); omega) ?_
      intro v51 a w hK hM
      replace hM := hM.to ([.own 9 1 (.slice A11_6 ((smsRg t2.th)).length c11_6) ((smsRg t2.th)).length (((smsRg t2.th)).map Str), .own 9 1 v51 ((((smsRg (l.take i) ++ (if t2.nm ≠ [] then [t2.nm] else [])) ++ exsRg (t2.es.take k)) ++ (smsRg t2.th))).length (((((smsRg (l.take i) ++ (if t2.nm ≠ [] then [t2.nm] else [])) ++ exsRg (t2.es.take k)) ++ (smsRg t2.th))).map Str)]) (by rw [show ((((smsRg (l.take i) ++ (if t2.nm ≠ [] then [t2.nm] else [])) ++ exsRg (t2.es.take k)) ++ (smsRg t2.th))).length = ((((smsRg (l.take i) ++ (if t2.nm ≠ [] then [t2.nm] else [])) ++ exsRg (t2.es.take k))).length + ((smsRg t2.th)).length) by (simp <;> omega), show (((((smsRg (l.take i) ++ (if t2.nm ≠ [] then [t2.nm] else [])) ++ exsRg (t2.es.take k)) ++ (smsRg t2.th))).map Str) = (((((smsRg (l.take i) ++ (if t2.nm ≠ [] then [t2.nm] else [])) ++ exsRg (t2.es.take k))).map Str) ++ (((smsRg t2.th)).map Str)) by simp [List.map_drop, List.map_take]]; rfl)
      obtain ⟨A11_7, c11_7, rfl⟩ := own_is (f := Str) (l := (((smsRg (l.take i) ++ (if t2.nm ≠ [] then [t2.nm] else [])) ++ exsRg (t2.es.take k)) ++ (smsRg t2.th))) (hM.own 1 rfl)
      refine tX #[true, true, true, true, true, true, true, true, true, true, true, true, true, false, false, false] (by kernel_rfl) ?_
      refine tM [13] (by kernel_rfl) rfl ⟨?_, trivial⟩
      refine sC hK hM 60 #[.slice t2.A3 t2.el.length t2.c3] (by kernel_rfl) (rC en_cantileverref03_all rfl rfl (by kernel_rfl)) ((ih t2 (List.mem_of_getElem? ht2)).2 _ _ _ (et2.els.on hM.below) (by have h9 := sm_sz t2; have h10 := smsSz_one (List.mem_of_getElem? ht2); omega)) ?_
      rintro ⟨A11_13, c11_13⟩ a w - hK hM
      refine tX #[true, true, true, true, true, true, true, true, true, true, true, true, true, true, false, false] (by kernel_rfl) ?_
      refine tM [14] (by kernel_rfl) rfl ⟨?_, trivial⟩
      refine stepAppendS hK hM 61 2 (m := ((smsRg t2.el)).length) (news := (((smsRg t2.el)).map Str)) Tryz.underlying36 elem_str (by kernel_rfl) rfl rfl rfl rfl (own_src (hM.own 0 rfl)) (by simp) (all_one (fun _ => rfl) _) (by have h1 := smsRg_sz (l.take i); have h2 := smsSz_le (l := l) (i := i); have h5 := base_one (p := t2.nm ≠ []) t2.nm; have h6 := sm_sz t2; have h7 := smsSz_one (List.mem_of_getElem? ht2); have h8 := exsRg_sz (t2.es.take k); have h9 := exsSz_le (l := t2.es) (i := k); have h10 := smsRg_sz t2.th; have h11 := smsRg_sz t2.el; (try simp only [List.length_append]); omega) ?_
      intro v53 a w hK hM
      replace hM := hM.to ([.own 9 1 (.slice A11_13 ((smsRg t2.el)).length c11_13) ((smsRg t2.el)).length (((smsRg t2.el)).map Str), .own 9 1 (.slice A11_6 ((smsRg t2.th)).length c11_6) ((smsRg t2.th)).length (((smsRg t2.th)).map Str), .own 9 1 v53 (((((smsRg (l.take i) ++ (if t2.nm ≠ [] then [t2.nm] else [])) ++ exsRg (t2.es.take k)) ++ (smsRg t2.th)) ++ (smsRg t2.el))).length ((((((smsRg (l.take i) ++ (if t2.nm ≠ [] then [t2.nm] else [])) ++ exsRg (t2.es.take k)) ++ (smsRg t2.th)) ++ (smsRg t2.el))).map Str)]) (by rw [show (((((smsRg (l.take i) ++ (if t2.nm ≠ [] then [t2.nm] else [])) ++ exsRg (t2.es.take k)) ++ (smsRg t2.th)) ++ (smsRg t2.el))).length = (((((smsRg (l.take i) ++ (if t2.nm ≠ [] then [t2.nm] else [])) ++ exsRg (t2.es.take k)) ++ (smsRg t2.th))).length + ((smsRg t2.el)).length) by (simp <;> omega), show ((((((smsRg (l.take i) ++ (if t2.nm ≠ [] then [t2.nm] else [])) ++ exsRg (t2.es.take k)) ++ (smsRg t2.th)) ++ (smsRg t2.el))).map Str) = ((((((smsRg (l.take i) ++ (if t2.nm ≠ [] then [t2.nm] else [])) ++ exsRg (t2.es.take k)) ++ (smsRg t2.th))).map Str) ++ (((smsRg t2.el)).map Str)) by simp [List.map_drop, List.map_take]]; rfl)
      obtain ⟨A11_14, c11_14, rfl⟩ := own_is (f := Str) (l := ((((smsRg (l.take i) ++ (if t2.nm ≠ [] then [t2.nm] else [])) ++ exsRg (t2.es.take k)) ++ (smsRg t2.th)) ++ (smsRg t2.el))) (hM.own 2 rfl)
      refine tX #[true, true, true, true, true, true, true, true, true, true, true, true, true, true, true, false] (by kernel_rfl) ?_
      refine tP hK 15 3 (.slice A11_14 (((((smsRg (l.take i) ++ (if t2.nm ≠ [] then [t2.nm] else [])) ++ exsRg (t2.es.take k)) ++ (smsRg t2.th)) ++ (smsRg t2.el))).length c11_14) (by kernel_rfl) (by kernel_rfl) (by kernel_rfl) (fun w => (by kernel_rfl)) #[true, true, true, true, true, true, true, true, true, true, true, true, true, true, true, true] (by kernel_rfl) fun a hK => ?_
      exact treeE (by kernel_rfl) ⟨A11_13, A11_14, A11_6, A11_7, c11_13, c11_14, c11_6, c11_7, hK.sub ⟨rfl, rfl, rfl, rfl, rfl, rfl, rfl, rfl, trivial⟩, hM⟩
    rintro a w ⟨A11_13, A11_14, A11_6, A11_7, c11_13, c11_14, c11_6, c11_7, hK, hM⟩
    refine rg3 (by kernel_rfl) ?_
    refine sM hK 10 4 (by kernel_rfl) (.inl rfl) rfl fun a hK => ?_
    refine sP hK 11 (.int .i64 (((i + 1) : Nat) : Int)) (by kernel_rfl) (run_addN (i := i) (j := 1) rfl rfl rfl (by omega)) fun a hK => ?_
    refine sM hK 4 11 (by kernel_rfl) (.inr rfl) rfl fun a hK => ?_
    refine rps ?_
    have hL9 : ((((smsRg (l.take i) ++ (if t2.nm ≠ [] then [t2.nm] else [])) ++ exsRg (t2.es.take k)) ++ (smsRg t2.th)) ++ (smsRg t2.el)) = (smsRg (l.take (i + 1))) := (by rw [smsRg_take ht2, sm_rg, show t2.es.take k = t2.es from List.take_of_length_le (by omega)]; simp only [List.append_assoc])
    rw [hL9] at hM; try rw [hL9] at hK
    clear hL9
    replace hM := hM.to ([.own 9 1 (.slice A11_13 ((smsRg t2.el)).length c11_13) ((smsRg t2.el)).length (((smsRg t2.el)).map Str), .own 9 1 (.slice A11_6 ((smsRg t2.th)).length c11_6) ((smsRg t2.th)).length (((smsRg t2.th)).map Str), .own 9 1 (.slice A11_14 ((smsRg (l.take (i + 1)))).length c11_14) ((smsRg (l.take (i + 1)))).length (((smsRg (l.take (i + 1)))).map Str)]) (by kernel_rfl)
    replace hM := hM.drop 2
    replace hM := hM.to ([.own 9 1 (.slice A11_14 ((smsRg (l.take (i + 1)))).length c11_14) ((smsRg (l.take (i + 1)))).length (((smsRg (l.take (i + 1)))).map Str)]) (by kernel_rfl)
    have hRn : (i + 1) ≤ l.length := (by omega)
    have hmn : l.length - (i + 1) < l.length - i := by omega
    exact ⟨(i + 1, A11_14, c11_14), hK.sub ⟨rfl, rfl, rfl, rfl, trivial⟩, hM, hRn, hmn⟩
 ·refine sP hK 9 (.bool false) (by kernel_rfl) (oB (b := (decide ((((i : Nat) : Int) : Int) < ((l.length : Nat) : Int)))) (by kernel_rfl) (decide_eq_false h1)) fun a hK => ?_
  refine rps ?_
  refine wp_cond_false (hK.get rfl) ?_
  refine wp_exit (exit_then (exit_then (exit_here 0 ?_)))
  refine wp_seq ?_
  have hL9 : (smsRg (l.take i)) = (smsRg l) := (by rw [List.take_of_length_le (by omega)])
  rw [hL9] at hM; try rw [hL9] at hK
  clear hL9
  replace hM := hM.to ([.own 9 1 (.slice A1 ((smsRg l)).length c1) ((smsRg l)).length (((smsRg l)).map Str)]) (by kernel_rfl)
  replace hM := hM
  replace hM := hM.to ([.own 9 1 (.slice A1 ((smsRg l)).length c1) ((smsRg l)).length (((smsRg l)).map Str)]) (by kernel_rfl)
  refine rg2 (by kernel_rfl) ?_
  refine sM hK 62 3 (by kernel_rfl) (.inl rfl) rfl fun a hK => ?_
  refine sM hK 2 62 (by kernel_rfl) (.inr rfl) rfl fun a hK => ?_
  refine rps ?_
  refine wp_ret ?_
  exact ret_t hK rfl (u := (.slice A1 ((smsRg l)).length c1)) rfl (⟨(A1, c1), rfl, hM, trivial⟩)
end Go.Proofs.YtiigncmpbkfhmaaGreatDoor
namespace Go.Proofs.YtiigncmpbkfhmaaGreatDoor
open Go Go.RowKit
def exsEq (l m : List Ex) : Bool := !(neI ((l.length : Nat) : Int) ((m.length : Nat) : Int)) && exsSame l m
theorem same_ex (e g : Ex) : e.same g = (decide (e.op = g.op) && (decide (e.num = g.num) && (decide (e.nm = g.nm) && exsEq e.ks g.ks))) := by
 rw [same_eq]
 unfold exNe exsEq neI neS
 cases decide (e.op = g.op) <;> cases decide (e.num = g.num) <;> cases decide (e.nm = g.nm) <;> cases decide (((e.ks.length : Nat) : Int) = ((g.ks.length : Nat) : Int)) <;> rfl
theorem en_cantileverkit_Expr : Enters Tryz.prog 78 := enters_of Tryz.func78 (by kernel_rfl) rfl
theorem en_cantileverkit_Exprs : Enters Tryz.prog 63 := enters_of Tryz.func63 (by kernel_rfl) rfl
theorem en_ast_SameExpr : Enters Tryz.prog 9 := enters_of Tryz.func9 (by kernel_rfl) rfl
theorem en_api_Expr_ : Enters Tryz.prog 29 := enters_of Tryz.func29 (by kernel_rfl) rfl
set_option maxRecDepth 100000 in
set_option maxHeartbeats 4000000 in
theorem kit_Exprs0 (l : List Ex) (ih : ∀ x ∈ l, ∀ (g : Ex) (w0 : World), ExAt w0 x → ExAt w0 g → Calls Tryz.prog 78 #[vE x, vE g] w0 (Ret w0 (.bool (x.same g)))) : ∀ (m : List Ex) (A : Option Addr) (c : Nat) (B : Option Addr) (d : Nat) (w0 : World), ExsAt w0 A l → ExsAt w0 B m → l.length ≤ 9223372036854775807 → m.length ≤ 9223372036854775807 → Calls Tryz.prog 63 #[.slice A l.length c, .slice B m.length d] w0 (Ret w0 (.bool (exsEq l m))) := by
 intro m A c B d w0 hl hm hln hmn
 refine calls_K (args := [.slice A l.length c, .slice B m.length d]) (n := 27) (env := [(0, .slice A l.length c), (1, .slice B m.length d)]) Tryz.func63 rfl rfl rfl ⟨rfl, rfl, trivial⟩ fun a w hK hM => ?_
 refine wp_seq ?_
 refine rg1 (by kernel_rfl) ?_
 refine sP hK 4 (.bool false) (by kernel_rfl) (by kernel_rfl) fun a hK => ?_
 refine rps ?_
 refine wp_seq ?_
 refine wp_seq ?_
 refine rg5 (by kernel_rfl) ?_
 refine sM hK 6 0 (by kernel_rfl) (.inl rfl) rfl fun a hK => ?_
 refine sP hK 7 (.int .i64 ((l.length : Nat) : Int)) (by kernel_rfl) (by kernel_rfl) fun a hK => ?_
 refine sM hK 8 1 (by kernel_rfl) (.inl rfl) rfl fun a hK => ?_
 refine sP hK 9 (.int .i64 ((m.length : Nat) : Int)) (by kernel_rfl) (by kernel_rfl) fun a hK => ?_
 rcases Bool.eq_false_or_eq_true (!(decide ((((l.length : Nat) : Int) : Int) = ((m.length : Nat) : Int)))) with h1 | h1
 ·refine sP hK 10 (.bool true) (by kernel_rfl) (oB (b := (!(decide ((((l.length : Nat) : Int) : Int) = ((m.length : Nat) : Int))))) (by kernel_rfl) h1) fun a hK => ?_
  refine rps ?_
  refine wp_cond_true (hK.get rfl) ?_
  refine wp_seq ?_
  refine rg1 (by kernel_rfl) ?_
  refine sP hK 4 (.bool false) (by kernel_rfl) (by kernel_rfl) fun a hK => ?_
  refine rps ?_
  refine wp_ret ?_
  exact ret_t hK rfl (u := (.bool false)) rfl (⟨by unfold exsEq neI; rw [h1]; rfl, hM.below⟩)
 ·refine sP hK 10 (.bool false) (by kernel_rfl) (oB (b := (!(decide ((((l.length : Nat) : Int) : Int) = ((m.length : Nat) : Int))))) (by kernel_rfl) h1) fun a hK => ?_
  refine rps ?_
  refine wp_cond_false (hK.get rfl) ?_
  refine wp_skip ?_
  refine wp_seq ?_
  refine wp_seq ?_
  have hne : neI ((l.length : Nat) : Int) ((m.length : Nat) : Int) = false := by unfold neI; rw [h1]
  have hlen : l.length = m.length := by have q := h1; simp at q; omega
  refine rg1 (by kernel_rfl) ?_
  refine sP hK 5 (.int .i64 0) (by kernel_rfl) (by kernel_rfl) fun a hK => ?_
  refine rps ?_
  refine wp_block ?_
  refine wLX (fun x : Nat => [(10, .bool false), (4, .bool false), (0, .slice A l.length c), (1, .slice B m.length d), (5, vN x)]) (fun x : Nat => []) (fun x : Nat => x ≤ l.length ∧ exsSame (l.drop x) (m.drop x) = exsSame l m) (fun x : Nat => l.length - x) 0 (hK.sub ⟨rfl, rfl, rfl, rfl, rfl, trivial⟩) hM ⟨Nat.zero_le _, rfl⟩ ?_
  rintro i a w hK hM hR
  replace hK : Knows a 27 [(10, .bool false), (4, .bool false), (0, .slice A l.length c), (1, .slice B m.length d), (5, vN i)] := hK
  replace hM : Mem w0 w [] := hM
  replace hR : i ≤ l.length ∧ exsSame (l.drop i) (m.drop i) = exsSame l m := hR
  refine wp_seq ?_
  refine wp_seq ?_
  refine rg4 (by kernel_rfl) ?_
  refine sM hK 11 5 (by kernel_rfl) (.inl rfl) rfl fun a hK => ?_
  refine sM hK 12 0 (by kernel_rfl) (.inl rfl) rfl fun a hK => ?_
  refine sP hK 13 (.int .i64 ((l.length : Nat) : Int)) (by kernel_rfl) (by kernel_rfl) fun a hK => ?_
  by_cases h2 : (((i : Nat) : Int) : Int) < ((l.length : Nat) : Int)
  ·refine sP hK 14 (.bool true) (by kernel_rfl) (oB (b := (decide ((((i : Nat) : Int) : Int) < ((l.length : Nat) : Int)))) (by kernel_rfl) (decide_eq_true h2)) fun a hK => ?_
   refine rps ?_
   refine wp_cond_true (hK.get rfl) ?_
   refine wp_skip ?_
   refine wp_seq ?_
   refine wp_block ?_
   refine wp_seq ?_
   obtain ⟨t3, ht3⟩ : ∃ t, l[(i : Nat)]? = some t := ⟨_, List.getElem?_eq_getElem (by omega)⟩
   obtain ⟨⟨at3, At3, ct3⟩, et3⟩ := hl _ _ ht3; have nt3 := et3.len
   obtain ⟨t4, ht4⟩ : ∃ t, m[(i : Nat)]? = some t := ⟨_, List.getElem?_eq_getElem (by omega)⟩
   obtain ⟨⟨at4, At4, ct4⟩, et4⟩ := hm _ _ ht4; have nt4 := et4.len
   rcases Bool.eq_false_or_eq_true (t3.same t4) with h5 | h5
   ·refine rAn (F := fun w => Mem w0 w []) hK [some (.slice A l.length c), some (vN i), some (.pointer (some (at3.add (i * 4)))), some (vE t3), some (.slice B m.length d), some (vN i), some (.pointer (some (at4.add (i * 4)))), some (vE t4), some (.bool true), some (.bool false)] 10 (fun _ _ hb hm => hm.go hb) hM (by kernel_rfl) (by kernel_rfl) ⟨⟨⟨⟨⟨⟨⟨⟨⟨⟨trivial, ?_⟩, ?_⟩, ?_⟩, ?_⟩, ?_⟩, ?_⟩, ?_⟩, ?_⟩, ?_⟩, ?_⟩ [(26, .bool false), (14, .bool true), (10, .bool false), (4, .bool false), (0, .slice A l.length c), (1, .slice B m.length d), (5, vN i)] (by kernel_rfl) fun a w hK hM => ?_
    ·exact .val (.slice A l.length c) rfl (by kernel_rfl) (fun w hM => (by kernel_rfl))
    ·exact .val (vN i) rfl (by kernel_rfl) (fun w hM => (by kernel_rfl))
    ·exact .val (.pointer (some (at3.add (i * 4)))) rfl (by kernel_rfl) (fun w hM => (rX (k := i) (s := 4) rfl rfl At3 rfl Tryz.underlying26 (by kernel_rfl) (by omega)))
    ·exact .val (vE t3) rfl (by kernel_rfl) (fun w hM => rL rfl rfl ((ct3.on hM.below)) (by kernel_rfl))
    ·exact .val (.slice B m.length d) rfl (by kernel_rfl) (fun w hM => (by kernel_rfl))
    ·exact .val (vN i) rfl (by kernel_rfl) (fun w hM => (by kernel_rfl))
    ·exact .val (.pointer (some (at4.add (i * 4)))) rfl (by kernel_rfl) (fun w hM => (rX (k := i) (s := 4) rfl rfl At4 rfl Tryz.underlying26 (by kernel_rfl) (by omega)))
    ·exact .val (vE t4) rfl (by kernel_rfl) (fun w hM => rL rfl rfl ((ct4.on hM.below)) (by kernel_rfl))
    ·exact .call _ #[vE t3, vE t4] (.bool true) rfl (by kernel_rfl) (fun w => (rC en_cantileverkit_Expr rfl rfl (by kernel_rfl))) (fun w hM => ret_eq (ih t3 (List.mem_of_getElem? ht3) t4 _ (et3.on hM.below) (et4.on hM.below)) (congrArg Value.bool h5))
    ·exact .val (.bool false) rfl (by kernel_rfl) (fun w hM => (by kernel_rfl))
    refine wp_cond_false (hK.get rfl) ?_
    refine wp_skip ?_
    refine rg3 (by kernel_rfl) ?_
    refine sM hK 15 5 (by kernel_rfl) (.inl rfl) rfl fun a hK => ?_
    refine sP hK 16 (.int .i64 (((i + 1) : Nat) : Int)) (by kernel_rfl) (run_addN (i := i) (j := 1) rfl rfl rfl (by omega)) fun a hK => ?_
    refine sM hK 5 16 (by kernel_rfl) (.inr rfl) rfl fun a hK => ?_
    refine rps ?_
    have hRn : (i + 1) ≤ l.length ∧ exsSame (l.drop (i + 1)) (m.drop (i + 1)) = exsSame l m := ⟨by omega, by rw [← hR.2, exsSame_step ht3 ht4, h5, Bool.true_and]⟩
    have hmn : l.length - (i + 1) < l.length - i := by omega
    exact ⟨i + 1, hK.sub ⟨rfl, rfl, rfl, rfl, rfl, trivial⟩, hM, hRn, hmn⟩
   ·refine rAn (F := fun w => Mem w0 w []) hK [some (.slice A l.length c), some (vN i), some (.pointer (some (at3.add (i * 4)))), some (vE t3), some (.slice B m.length d), some (vN i), some (.pointer (some (at4.add (i * 4)))), some (vE t4), some (.bool false), some (.bool true)] 10 (fun _ _ hb hm => hm.go hb) hM (by kernel_rfl) (by kernel_rfl) ⟨⟨⟨⟨⟨⟨⟨⟨⟨⟨trivial, ?_⟩, ?_⟩, ?_⟩, ?_⟩, ?_⟩, ?_⟩, ?_⟩, ?_⟩, ?_⟩, ?_⟩ [(26, .bool true), (14, .bool true), (10, .bool false), (4, .bool false), (0, .slice A l.length c), (1, .slice B m.length d), (5, vN i)] (by kernel_rfl) fun a w hK hM => ?_
    ·exact .val (.slice A l.length c) rfl (by kernel_rfl) (fun w hM => (by kernel_rfl))
    ·exact .val (vN i) rfl (by kernel_rfl) (fun w hM => (by kernel_rfl))
    ·exact .val (.pointer (some (at3.add (i * 4)))) rfl (by kernel_rfl) (fun w hM => (rX (k := i) (s := 4) rfl rfl At3 rfl Tryz.underlying26 (by kernel_rfl) (by omega)))
    ·exact .val (vE t3) rfl (by kernel_rfl) (fun w hM => rL rfl rfl ((ct3.on hM.below)) (by kernel_rfl))
    ·exact .val (.slice B m.length d) rfl (by kernel_rfl) (fun w hM => (by kernel_rfl))
    ·exact .val (vN i) rfl (by kernel_rfl) (fun w hM => (by kernel_rfl))
    ·exact .val (.pointer (some (at4.add (i * 4)))) rfl (by kernel_rfl) (fun w hM => (rX (k := i) (s := 4) rfl rfl At4 rfl Tryz.underlying26 (by kernel_rfl) (by omega)))
    ·exact .val (vE t4) rfl (by kernel_rfl) (fun w hM => rL rfl rfl ((ct4.on hM.below)) (by kernel_rfl))
    ·exact .call _ #[vE t3, vE t4] (.bool false) rfl (by kernel_rfl) (fun w => (rC en_cantileverkit_Expr rfl rfl (by kernel_rfl))) (fun w hM => ret_eq (ih t3 (List.mem_of_getElem? ht3) t4 _ (et3.on hM.below) (et4.on hM.below)) (congrArg Value.bool h5))
    ·exact .val (.bool true) rfl (by kernel_rfl) (fun w hM => (by kernel_rfl))
    refine wp_cond_true (hK.get rfl) ?_
    refine wp_seq ?_
    refine rg1 (by kernel_rfl) ?_
    refine sP hK 4 (.bool false) (by kernel_rfl) (by kernel_rfl) fun a hK => ?_
    refine rps ?_
    refine wp_ret ?_
    exact ret_t hK rfl (u := (.bool false)) rfl (⟨by unfold exsEq; rw [hne, ← hR.2, exsSame_step ht3 ht4, h5]; rfl, hM.below⟩)
  ·refine sP hK 14 (.bool false) (by kernel_rfl) (oB (b := (decide ((((i : Nat) : Int) : Int) < ((l.length : Nat) : Int)))) (by kernel_rfl) (decide_eq_false h2)) fun a hK => ?_
   refine rps ?_
   refine wp_cond_false (hK.get rfl) ?_
   refine wp_exit (exit_then (exit_then (exit_here 0 ?_)))
   refine wp_seq ?_
   refine rg1 (by kernel_rfl) ?_
   refine sP hK 4 (.bool true) (by kernel_rfl) (by kernel_rfl) fun a hK => ?_
   refine rps ?_
   refine wp_ret ?_
   exact ret_t hK rfl (u := (.bool true)) rfl (⟨by unfold exsEq; rw [hne, ← hR.2, exsSame_end (by omega)]; rfl, hM.below⟩)
set_option maxRecDepth 100000 in
set_option maxHeartbeats 4000000 in
theorem kit_Expr (e : Ex) : ∀ (g : Ex) (w0 : World), ExAt w0 e → ExAt w0 g → Calls Tryz.prog 78 #[vE e, vE g] w0 (Ret w0 (.bool (e.same g))) := by
 induction e using Ex.rec_on
 rename_i e ih
 intro g w0 he hg
 have hel := he.len; have hgl := hg.len
 refine calls_K (args := [vE e, vE g]) (n := 31) (env := [(0, vE e), (1, vE g)]) Tryz.func78 rfl rfl rfl ⟨rfl, rfl, trivial⟩ fun a w hK hM => ?_
 refine wp_seq ?_
 refine rg3 (by kernel_rfl) ?_
 refine sA hK hM 2 28 (cE e) (fun b => pA b 0) (by kernel_rfl) (by kernel_rfl) fun b1 a w hK hM => ?_
 refine sA hK hM 3 28 (cE g) (fun b => pA b 0) (by kernel_rfl) (by kernel_rfl) fun b2 a w hK hM => ?_
 refine sP hK 4 (.bool false) (by kernel_rfl) (by kernel_rfl) fun a hK => ?_
 refine rps ?_
 refine wp_seq ?_
 refine rg27 (by kernel_rfl) ?_
 refine sP hK 5 (pA b1 0) (by kernel_rfl) (by kernel_rfl) fun a hK => ?_
 refine sL hK 6 (.int .i64 e.op) (by kernel_rfl) rfl rfl ((hM.row 1 rfl).cells 0 1) (by kernel_rfl) fun a hK => ?_
 refine sP hK 7 (pA b2 0) (by kernel_rfl) (by kernel_rfl) fun a hK => ?_
 refine sL hK 8 (.int .i64 g.op) (by kernel_rfl) rfl rfl ((hM.row 0 rfl).cells 0 1) (by kernel_rfl) fun a hK => ?_
 by_cases h3 : (e.op : Int) = g.op
 ·refine sP hK 9 (.bool true) (by kernel_rfl) (oB (b := (decide ((e.op : Int) = g.op))) (by kernel_rfl) (decide_eq_true h3)) fun a hK => ?_
  refine sM hK 10 9 (by kernel_rfl) (.inl rfl) rfl fun a hK => ?_
  refine sP hK 11 (pA b1 1) (by kernel_rfl) (by kernel_rfl) fun a hK => ?_
  refine sL hK 12 (.int .i64 e.num) (by kernel_rfl) rfl rfl ((hM.row 1 rfl).cells 1 1) (by kernel_rfl) fun a hK => ?_
  refine sP hK 13 (pA b2 1) (by kernel_rfl) (by kernel_rfl) fun a hK => ?_
  refine sL hK 14 (.int .i64 g.num) (by kernel_rfl) rfl rfl ((hM.row 0 rfl).cells 1 1) (by kernel_rfl) fun a hK => ?_
  by_cases h4 : (e.num : Int) = g.num
  ·refine sP hK 15 (.bool true) (by kernel_rfl) (oB (b := (decide ((e.num : Int) = g.num))) (by kernel_rfl) (decide_eq_true h4)) fun a hK => ?_
   refine sP hK 16 (.bool true) (by kernel_rfl) (by kernel_rfl) fun a hK => ?_
   refine sM hK 17 16 (by kernel_rfl) (.inl rfl) rfl fun a hK => ?_
   refine sP hK 18 (pA b1 2) (by kernel_rfl) (by kernel_rfl) fun a hK => ?_
   refine sL hK 19 (Str e.nm) (by kernel_rfl) rfl rfl ((hM.row 1 rfl).cells 2 1) (by kernel_rfl) fun a hK => ?_
   refine sP hK 20 (pA b2 2) (by kernel_rfl) (by kernel_rfl) fun a hK => ?_
   refine sL hK 21 (Str g.nm) (by kernel_rfl) rfl rfl ((hM.row 0 rfl).cells 2 1) (by kernel_rfl) fun a hK => ?_
   by_cases h5 : e.nm = g.nm
   ·refine sP hK 22 (.bool true) (by kernel_rfl) (oB (b := (decide (e.nm = g.nm))) (run_eqS rfl rfl rfl) (decide_eq_true h5)) fun a hK => ?_
    refine sP hK 23 (.bool true) (by kernel_rfl) (by kernel_rfl) fun a hK => ?_
    refine sM hK 24 23 (by kernel_rfl) (.inl rfl) rfl fun a hK => ?_
    refine sP hK 25 (pA b1 3) (by kernel_rfl) (by kernel_rfl) fun a hK => ?_
    refine sL hK 26 (.slice e.A e.ks.length e.c) (by kernel_rfl) rfl rfl ((hM.row 1 rfl).cells 3 1) (by kernel_rfl) fun a hK => ?_
    refine sP hK 27 (pA b2 3) (by kernel_rfl) (by kernel_rfl) fun a hK => ?_
    refine sL hK 28 (.slice g.A g.ks.length g.c) (by kernel_rfl) rfl rfl ((hM.row 0 rfl).cells 3 1) (by kernel_rfl) fun a hK => ?_
    rcases Bool.eq_false_or_eq_true (exsEq e.ks g.ks) with h6 | h6
    ·refine sR hK hM 29 #[.slice e.A e.ks.length e.c, .slice g.A g.ks.length g.c] (.bool true) (by kernel_rfl) (rC en_cantileverkit_Exprs rfl rfl (by kernel_rfl)) (ret_eq (kit_Exprs0 e.ks ih g.ks _ _ _ _ _ (he.kids.on hM.below) (hg.kids.on hM.below) (by omega) (by omega)) (congrArg Value.bool h6)) fun a w hK hM => ?_
     refine sP hK 30 (.bool true) (by kernel_rfl) (by kernel_rfl) fun a hK => ?_
     refine sM hK 4 30 (by kernel_rfl) (.inr rfl) rfl fun a hK => ?_
     refine rps ?_
     refine wp_ret ?_
     exact ret_t hK rfl (u := (.bool true)) rfl (⟨by rw [same_ex, (decide_eq_true h3), (decide_eq_true h4), (decide_eq_true h5), h6]; rfl, hM.below⟩)
    ·refine sR hK hM 29 #[.slice e.A e.ks.length e.c, .slice g.A g.ks.length g.c] (.bool false) (by kernel_rfl) (rC en_cantileverkit_Exprs rfl rfl (by kernel_rfl)) (ret_eq (kit_Exprs0 e.ks ih g.ks _ _ _ _ _ (he.kids.on hM.below) (hg.kids.on hM.below) (by omega) (by omega)) (congrArg Value.bool h6)) fun a w hK hM => ?_
     refine sP hK 30 (.bool false) (by kernel_rfl) (by kernel_rfl) fun a hK => ?_
     refine sM hK 4 30 (by kernel_rfl) (.inr rfl) rfl fun a hK => ?_
     refine rps ?_
     refine wp_ret ?_
     exact ret_t hK rfl (u := (.bool false)) rfl (⟨by rw [same_ex, (decide_eq_true h3), (decide_eq_true h4), (decide_eq_true h5), h6]; rfl, hM.below⟩)
   ·refine sP hK 22 (.bool false) (by kernel_rfl) (oB (b := (decide (e.nm = g.nm))) (run_eqS rfl rfl rfl) (decide_eq_false h5)) fun a hK => ?_
    refine sP hK 23 (.bool false) (by kernel_rfl) (by kernel_rfl) fun a hK => ?_
    refine sM hK 24 23 (by kernel_rfl) (.inl rfl) rfl fun a hK => ?_
    refine sN hK 25 (by kernel_rfl) fun a hK => ?_
    refine sN hK 26 (by kernel_rfl) fun a hK => ?_
    refine sN hK 27 (by kernel_rfl) fun a hK => ?_
    refine sN hK 28 (by kernel_rfl) fun a hK => ?_
    refine sN hK 29 (by kernel_rfl) fun a hK => ?_
    refine sP hK 30 (.bool false) (by kernel_rfl) (by kernel_rfl) fun a hK => ?_
    refine sM hK 4 30 (by kernel_rfl) (.inr rfl) rfl fun a hK => ?_
    refine rps ?_
    refine wp_ret ?_
    exact ret_t hK rfl (u := (.bool false)) rfl (⟨by rw [same_ex, (decide_eq_true h3), (decide_eq_true h4), (decide_eq_false h5)]; rfl, hM.below⟩)
  ·refine sP hK 15 (.bool false) (by kernel_rfl) (oB (b := (decide ((e.num : Int) = g.num))) (by kernel_rfl) (decide_eq_false h4)) fun a hK => ?_
   refine sP hK 16 (.bool false) (by kernel_rfl) (by kernel_rfl) fun a hK => ?_
   refine sM hK 17 16 (by kernel_rfl) (.inl rfl) rfl fun a hK => ?_
   refine sN hK 18 (by kernel_rfl) fun a hK => ?_
   refine sN hK 19 (by kernel_rfl) fun a hK => ?_
   refine sN hK 20 (by kernel_rfl) fun a hK => ?_
   refine sN hK 21 (by kernel_rfl) fun a hK => ?_
   refine sN hK 22 (by kernel_rfl) fun a hK => ?_
   refine sP hK 23 (.bool false) (by kernel_rfl) (by kernel_rfl) fun a hK => ?_
   refine sM hK 24 23 (by kernel_rfl) (.inl rfl) rfl fun a hK => ?_
   refine sN hK 25 (by kernel_rfl) fun a hK => ?_
   refine sN hK 26 (by kernel_rfl) fun a hK => ?_
   refine sN hK 27 (by kernel_rfl) fun a hK => ?_
   refine sN hK 28 (by kernel_rfl) fun a hK => ?_
   refine sN hK 29 (by kernel_rfl) fun a hK => ?_
   refine sP hK 30 (.bool false) (by kernel_rfl) (by kernel_rfl) fun a hK => ?_
   refine sM hK 4 30 (by kernel_rfl) (.inr rfl) rfl fun a hK => ?_
   refine rps ?_
   refine wp_ret ?_
   exact ret_t hK rfl (u := (.bool false)) rfl (⟨by rw [same_ex, (decide_eq_true h3), (decide_eq_false h4)]; rfl, hM.below⟩)
 ·refine sP hK 9 (.bool false) (by kernel_rfl) (oB (b := (decide ((e.op : Int) = g.op))) (by kernel_rfl) (decide_eq_false h3)) fun a hK => ?_
  refine sM hK 10 9 (by kernel_rfl) (.inl rfl) rfl fun a hK => ?_
  refine sN hK 11 (by kernel_rfl) fun a hK => ?_
  refine sN hK 12 (by kernel_rfl) fun a hK => ?_
  refine sN hK 13 (by kernel_rfl) fun a hK => ?_
  refine sN hK 14 (by kernel_rfl) fun a hK => ?_
  refine sN hK 15 (by kernel_rfl) fun a hK => ?_
  refine sP hK 16 (.bool false) (by kernel_rfl) (by kernel_rfl) fun a hK => ?_
  refine sM hK 17 16 (by kernel_rfl) (.inl rfl) rfl fun a hK => ?_
  refine sN hK 18 (by kernel_rfl) fun a hK => ?_
  refine sN hK 19 (by kernel_rfl) fun a hK => ?_
  refine sN hK 20 (by kernel_rfl) fun a hK => ?_
  refine sN hK 21 (by kernel_rfl) fun a hK => ?_
  refine sN hK 22 (by kernel_rfl) fun a hK => ?_
  refine sP hK 23 (.bool false) (by kernel_rfl) (by kernel_rfl) fun a hK => ?_
  refine sM hK 24 23 (by kernel_rfl) (.inl rfl) rfl fun a hK => ?_
  refine sN hK 25 (by kernel_rfl) fun a hK => ?_
  refine sN hK 26 (by kernel_rfl) fun a hK => ?_
  refine sN hK 27 (by kernel_rfl) fun a hK => ?_
  refine sN hK 28 (by kernel_rfl) fun a hK => ?_
  refine sN hK 29 (by kernel_rfl) fun a hK => ?_
  refine sP hK 30 (.bool false) (by kernel_rfl) (by kernel_rfl) fun a hK => ?_
  refine sM hK 4 30 (by kernel_rfl) (.inr rfl) rfl fun a hK => ?_
  refine rps ?_
  refine wp_ret ?_
  exact ret_t hK rfl (u := (.bool false)) rfl (⟨by rw [same_ex, (decide_eq_false h3)]; rfl, hM.below⟩)
set_option maxRecDepth 100000 in
set_option maxHeartbeats 4000000 in
theorem ast_eqEx (l : List Ex) (ih : ∀ x ∈ l, ∀ (g : Ex) (w0 : World), ExAt w0 x → ExAt w0 g → Calls Tryz.prog 9 #[vE x, vE g] w0 (Ret w0 (.bool (x.same g)))) : ∀ (m : List Ex) (A : Option Addr) (c : Nat) (B : Option Addr) (d : Nat) (w0 : World), ExsAt w0 A l → ExsAt w0 B m → l.length ≤ 9223372036854775807 → m.length ≤ 9223372036854775807 → Calls Tryz.prog 29 #[.slice A l.length c, .slice B m.length d, .func (.func 9) #[] #[]] w0 (Ret w0 (.bool (exsEq l m))) := by
 intro m A c B d w0 hl hm hln hmn
 refine calls_K (args := [.slice A l.length c, .slice B m.length d, .func (.func 9) #[] #[]]) (n := 32) (env := [(0, .slice A l.length c), (1, .slice B m.length d), (2, .func (.func 9) #[] #[])]) Tryz.func29 rfl rfl rfl ⟨rfl, rfl, rfl, trivial⟩ fun a w hK hM => ?_
 refine wp_seq ?_
 refine rg1 (by kernel_rfl) ?_
 refine sP hK 6 (.bool false) (by kernel_rfl) (by kernel_rfl) fun a hK => ?_
 refine rps ?_
 refine wp_seq ?_
 refine wp_seq ?_
 refine rg5 (by kernel_rfl) ?_
 refine sM hK 10 0 (by kernel_rfl) (.inl rfl) rfl fun a hK => ?_
 refine sP hK 11 (.int .i64 ((l.length : Nat) : Int)) (by kernel_rfl) (by kernel_rfl) fun a hK => ?_
 refine sM hK 12 1 (by kernel_rfl) (.inl rfl) rfl fun a hK => ?_
 refine sP hK 13 (.int .i64 ((m.length : Nat) : Int)) (by kernel_rfl) (by kernel_rfl) fun a hK => ?_
 rcases Bool.eq_false_or_eq_true (!(decide ((((l.length : Nat) : Int) : Int) = ((m.length : Nat) : Int)))) with h1 | h1
 ·refine sP hK 14 (.bool true) (by kernel_rfl) (oB (b := (!(decide ((((l.length : Nat) : Int) : Int) = ((m.length : Nat) : Int))))) (by kernel_rfl) h1) fun a hK => ?_
  refine rps ?_
  refine wp_cond_true (hK.get rfl) ?_
  refine wp_seq ?_
  refine rg1 (by kernel_rfl) ?_
  refine sP hK 6 (.bool false) (by kernel_rfl) (by kernel_rfl) fun a hK => ?_
  refine rps ?_
  refine wp_ret ?_
  exact ret_t hK rfl (u := (.bool false)) rfl (⟨by unfold exsEq neI; rw [h1]; rfl, hM.below⟩)
 ·refine sP hK 14 (.bool false) (by kernel_rfl) (oB (b := (!(decide ((((l.length : Nat) : Int) : Int) = ((m.length : Nat) : Int))))) (by kernel_rfl) h1) fun a hK => ?_
  refine rps ?_
  refine wp_cond_false (hK.get rfl) ?_
  refine wp_skip ?_
  refine wp_seq ?_
  refine wp_seq ?_
  have hne : neI ((l.length : Nat) : Int) ((m.length : Nat) : Int) = false := by unfold neI; rw [h1]
  have hlen : l.length = m.length := by have q := h1; simp at q; omega
  refine rg3 (by kernel_rfl) ?_
  refine sM hK 15 0 (by kernel_rfl) (.inl rfl) rfl fun a hK => ?_
  refine sP hK 16 (.int .i64 ((l.length : Nat) : Int)) (by kernel_rfl) (by kernel_rfl) fun a hK => ?_
  refine sP hK 17 (.int .i64 0) (by kernel_rfl) (by kernel_rfl) fun a hK => ?_
  refine rps ?_
  refine wp_block ?_
  refine wLX (fun x : Nat => [(16, .int .i64 ((l.length : Nat) : Int)), (15, .slice A l.length c), (14, .bool false), (6, .bool false), (0, .slice A l.length c), (1, .slice B m.length d), (2, .func (.func 9) #[] #[]), (17, vN x)]) (fun x : Nat => []) (fun x : Nat => x ≤ l.length ∧ exsSame (l.drop x) (m.drop x) = exsSame l m) (fun x : Nat => l.length - x) 0 (hK.sub ⟨rfl, rfl, rfl, rfl, rfl, rfl, rfl, rfl, trivial⟩) hM ⟨Nat.zero_le _, rfl⟩ ?_
  rintro i a w hK hM hR
  replace hK : Knows a 32 [(16, .int .i64 ((l.length : Nat) : Int)), (15, .slice A l.length c), (14, .bool false), (6, .bool false), (0, .slice A l.length c), (1, .slice B m.length d), (2, .func (.func 9) #[] #[]), (17, vN i)] := hK
  replace hM : Mem w0 w [] := hM
  replace hR : i ≤ l.length ∧ exsSame (l.drop i) (m.drop i) = exsSame l m := hR
  refine wp_seq ?_
  refine rg1 (by kernel_rfl) ?_
  by_cases h2 : (((i : Nat) : Int) : Int) < ((l.length : Nat) : Int)
  ·refine sP hK 18 (.bool true) (by kernel_rfl) (oB (b := (decide ((((i : Nat) : Int) : Int) < ((l.length : Nat) : Int)))) (by kernel_rfl) (decide_eq_true h2)) fun a hK => ?_
   refine rps ?_
   refine wp_seq ?_
   refine wp_cond_true (hK.get rfl) ?_
   refine wp_skip ?_
   refine wp_seq ?_
   refine wp_block ?_
   refine wp_seq ?_
   refine rg6 (by kernel_rfl) ?_
   refine sM hK 19 17 (by kernel_rfl) (.inl rfl) rfl fun a hK => ?_
   obtain ⟨t3, ht3⟩ : ∃ t, l[(i : Nat)]? = some t := ⟨_, List.getElem?_eq_getElem (by omega)⟩
   obtain ⟨⟨at3, At3, ct3⟩, et3⟩ := hl _ _ ht3; have nt3 := et3.len
   refine sP hK 20 (.pointer (some (at3.add (i * 4)))) (by kernel_rfl) (rX (k := i) (s := 4) rfl rfl At3 rfl Tryz.underlying26 (by kernel_rfl) (by omega)) fun a hK => ?_
   refine sL hK 21 (vE t3) (by kernel_rfl) rfl rfl ((ct3.on hM.below)) (by kernel_rfl) fun a hK => ?_
   refine sA hK hM 8 28 [.int .i64 0, .int .i64 0, Str [], .slice none 0 0] (fun b => pA b 0) (by kernel_rfl) (by kernel_rfl) fun b4 a w hK hM => ?_
   refine sM hK 7 19 (by kernel_rfl) (.inr rfl) rfl fun a hK => ?_
   refine sS hK hM 0 (cE t3) (by kernel_rfl) rfl rfl rfl rfl (by kernel_rfl) fun w hM => ?_
   replace hM := hM.to [.row b4 28 (cE t3)] (by kernel_rfl)
   refine rps ?_
   refine wp_seq ?_
   refine rg6 (by kernel_rfl) ?_
   refine sM hK 22 1 (by kernel_rfl) (.inl rfl) rfl fun a hK => ?_
   refine sM hK 23 7 (by kernel_rfl) (.inl rfl) rfl fun a hK => ?_
   obtain ⟨t5, ht5⟩ : ∃ t, m[(i : Nat)]? = some t := ⟨_, List.getElem?_eq_getElem (by omega)⟩
   obtain ⟨⟨at5, At5, ct5⟩, et5⟩ := hm _ _ ht5; have nt5 := et5.len
   refine sP hK 24 (.pointer (some (at5.add (i * 4)))) (by kernel_rfl) (rX (k := i) (s := 4) rfl rfl At5 rfl Tryz.underlying26 (by kernel_rfl) (by omega)) fun a hK => ?_
   refine sL hK 25 (vE t5) (by kernel_rfl) rfl rfl ((ct5.on hM.below)) (by kernel_rfl) fun a hK => ?_
   refine sA hK hM 9 28 [.int .i64 0, .int .i64 0, Str [], .slice none 0 0] (fun b => pA b 0) (by kernel_rfl) (by kernel_rfl) fun b6 a w hK hM => ?_
   refine sS hK hM 0 (cE t5) (by kernel_rfl) rfl rfl rfl rfl (by kernel_rfl) fun w hM => ?_
   replace hM := hM.to [.row b6 28 (cE t5), .row b4 28 (cE t3)] (by kernel_rfl)
   refine rps ?_
   refine wp_seq ?_
   refine rg5 (by kernel_rfl) ?_
   refine sM hK 26 2 (by kernel_rfl) (.inl rfl) rfl fun a hK => ?_
   refine sL hK 27 (vE t3) (by kernel_rfl) rfl rfl ((hM.row 1 rfl).cells 0 4) (by kernel_rfl) fun a hK => ?_
   refine sL hK 28 (vE t5) (by kernel_rfl) rfl rfl ((hM.row 0 rfl).cells 0 4) (by kernel_rfl) fun a hK => ?_
   rcases Bool.eq_false_or_eq_true (t3.same t5) with h7 | h7
   ·refine sR hK hM 29 #[vE t3, vE t5] (.bool true) (by kernel_rfl) (rC en_ast_SameExpr rfl rfl (by kernel_rfl)) (ret_eq (ih t3 (List.mem_of_getElem? ht3) t5 _ (et3.on hM.below) (et5.on hM.below)) (congrArg Value.bool h7)) fun a w hK hM => ?_
    refine sP hK 30 (.bool false) (by kernel_rfl) (by kernel_rfl) fun a hK => ?_
    refine rps ?_
    refine wp_cond_false (hK.get rfl) ?_
    refine wp_skip ?_
    refine rg2 (by kernel_rfl) ?_
    refine sP hK 31 (.int .i64 (((i + 1) : Nat) : Int)) (by kernel_rfl) (run_addN (i := i) (j := 1) rfl rfl rfl (by omega)) fun a hK => ?_
    refine sM hK 17 31 (by kernel_rfl) (.inl rfl) rfl fun a hK => ?_
    refine rps ?_
    have hRn : (i + 1) ≤ l.length ∧ exsSame (l.drop (i + 1)) (m.drop (i + 1)) = exsSame l m := ⟨by omega, by rw [← hR.2, exsSame_step ht3 ht5, h7, Bool.true_and]⟩
    have hmn : l.length - (i + 1) < l.length - i := by omega
    exact ⟨i + 1, hK.sub ⟨rfl, rfl, rfl, rfl, rfl, rfl, rfl, rfl, trivial⟩, (hM.drop 2), hRn, hmn⟩
   ·refine sR hK hM 29 #[vE t3, vE t5] (.bool false) (by kernel_rfl) (rC en_ast_SameExpr rfl rfl (by kernel_rfl)) (ret_eq (ih t3 (List.mem_of_getElem? ht3) t5 _ (et3.on hM.below) (et5.on hM.below)) (congrArg Value.bool h7)) fun a w hK hM => ?_
    refine sP hK 30 (.bool true) (by kernel_rfl) (by kernel_rfl) fun a hK => ?_
    refine rps ?_
    refine wp_cond_true (hK.get rfl) ?_
    refine wp_seq ?_
    refine rg1 (by kernel_rfl) ?_
    refine sP hK 6 (.bool false) (by kernel_rfl) (by kernel_rfl) fun a hK => ?_
    refine rps ?_
    refine wp_ret ?_
    exact ret_t hK rfl (u := (.bool false)) rfl (⟨by unfold exsEq; rw [hne, ← hR.2, exsSame_step ht3 ht5, h7]; rfl, hM.below⟩)
  ·refine sP hK 18 (.bool false) (by kernel_rfl) (oB (b := (decide ((((i : Nat) : Int) : Int) < ((l.length : Nat) : Int)))) (by kernel_rfl) (decide_eq_false h2)) fun a hK => ?_
   refine rps ?_
   refine wp_seq ?_
   refine wp_cond_false (hK.get rfl) ?_
   refine wp_exit (exit_then (exit_then (exit_here 0 ?_)))
   refine wp_seq ?_
   refine rg1 (by kernel_rfl) ?_
   refine sP hK 6 (.bool true) (by kernel_rfl) (by kernel_rfl) fun a hK => ?_
   refine rps ?_
   refine wp_ret ?_
   exact ret_t hK rfl (u := (.bool true)) rfl (⟨by unfold exsEq; rw [hne, ← hR.2, exsSame_end (by omega)]; rfl, hM.below⟩)
set_option maxRecDepth 100000 in
set_option maxHeartbeats 4000000 in
theorem ast_SameExpr (e : Ex) : ∀ (g : Ex) (w0 : World), ExAt w0 e → ExAt w0 g → Calls Tryz.prog 9 #[vE e, vE g] w0 (Ret w0 (.bool (e.same g))) := by
 induction e using Ex.rec_on
 rename_i e ih
 intro g w0 he hg
 have hel := he.len; have hgl := hg.len
 refine calls_K (args := [vE e, vE g]) (n := 31) (env := [(0, vE e), (1, vE g)]) Tryz.func9 rfl rfl rfl ⟨rfl, rfl, trivial⟩ fun a w hK hM => ?_
 refine wp_seq ?_
 refine rg3 (by kernel_rfl) ?_
 refine sA hK hM 2 28 (cE e) (fun b => pA b 0) (by kernel_rfl) (by kernel_rfl) fun b1 a w hK hM => ?_
 refine sA hK hM 3 28 (cE g) (fun b => pA b 0) (by kernel_rfl) (by kernel_rfl) fun b2 a w hK hM => ?_
 refine sP hK 4 (.bool false) (by kernel_rfl) (by kernel_rfl) fun a hK => ?_
 refine rps ?_
 refine wp_seq ?_
 refine rg27 (by kernel_rfl) ?_
 refine sP hK 5 (pA b1 0) (by kernel_rfl) (by kernel_rfl) fun a hK => ?_
 refine sL hK 6 (.int .i64 e.op) (by kernel_rfl) rfl rfl ((hM.row 1 rfl).cells 0 1) (by kernel_rfl) fun a hK => ?_
 refine sP hK 7 (pA b2 0) (by kernel_rfl) (by kernel_rfl) fun a hK => ?_
 refine sL hK 8 (.int .i64 g.op) (by kernel_rfl) rfl rfl ((hM.row 0 rfl).cells 0 1) (by kernel_rfl) fun a hK => ?_
 by_cases h3 : (e.op : Int) = g.op
 ·refine sP hK 9 (.bool true) (by kernel_rfl) (oB (b := (decide ((e.op : Int) = g.op))) (by kernel_rfl) (decide_eq_true h3)) fun a hK => ?_
  refine sM hK 10 9 (by kernel_rfl) (.inl rfl) rfl fun a hK => ?_
  refine sP hK 11 (pA b1 1) (by kernel_rfl) (by kernel_rfl) fun a hK => ?_
  refine sL hK 12 (.int .i64 e.num) (by kernel_rfl) rfl rfl ((hM.row 1 rfl).cells 1 1) (by kernel_rfl) fun a hK => ?_
  refine sP hK 13 (pA b2 1) (by kernel_rfl) (by kernel_rfl) fun a hK => ?_
  refine sL hK 14 (.int .i64 g.num) (by kernel_rfl) rfl rfl ((hM.row 0 rfl).cells 1 1) (by kernel_rfl) fun a hK => ?_
  by_cases h4 : (e.num : Int) = g.num
  ·refine sP hK 15 (.bool true) (by kernel_rfl) (oB (b := (decide ((e.num : Int) = g.num))) (by kernel_rfl) (decide_eq_true h4)) fun a hK => ?_
   refine sP hK 16 (.bool true) (by kernel_rfl) (by kernel_rfl) fun a hK => ?_
   refine sM hK 17 16 (by kernel_rfl) (.inl rfl) rfl fun a hK => ?_
   refine sP hK 18 (pA b1 2) (by kernel_rfl) (by kernel_rfl) fun a hK => ?_
   refine sL hK 19 (Str e.nm) (by kernel_rfl) rfl rfl ((hM.row 1 rfl).cells 2 1) (by kernel_rfl) fun a hK => ?_
   refine sP hK 20 (pA b2 2) (by kernel_rfl) (by kernel_rfl) fun a hK => ?_
   refine sL hK 21 (Str g.nm) (by kernel_rfl) rfl rfl ((hM.row 0 rfl).cells 2 1) (by kernel_rfl) fun a hK => ?_
   by_cases h5 : e.nm = g.nm
   ·refine sP hK 22 (.bool true) (by kernel_rfl) (oB (b := (decide (e.nm = g.nm))) (run_eqS rfl rfl rfl) (decide_eq_true h5)) fun a hK => ?_
    refine sP hK 23 (.bool true) (by kernel_rfl) (by kernel_rfl) fun a hK => ?_
    refine sM hK 24 23 (by kernel_rfl) (.inl rfl) rfl fun a hK => ?_
    refine sP hK 25 (pA b1 3) (by kernel_rfl) (by kernel_rfl) fun a hK => ?_
    refine sL hK 26 (.slice e.A e.ks.length e.c) (by kernel_rfl) rfl rfl ((hM.row 1 rfl).cells 3 1) (by kernel_rfl) fun a hK => ?_
    refine sP hK 27 (pA b2 3) (by kernel_rfl) (by kernel_rfl) fun a hK => ?_
    refine sL hK 28 (.slice g.A g.ks.length g.c) (by kernel_rfl) rfl rfl ((hM.row 0 rfl).cells 3 1) (by kernel_rfl) fun a hK => ?_
    rcases Bool.eq_false_or_eq_true (exsEq e.ks g.ks) with h6 | h6
    ·refine sR hK hM 29 #[.slice e.A e.ks.length e.c, .slice g.A g.ks.length g.c, .func (.func 9) #[] #[]] (.bool true) (by kernel_rfl) (rC en_api_Expr_ rfl rfl (by kernel_rfl)) (ret_eq (ast_eqEx e.ks ih g.ks _ _ _ _ _ (he.kids.on hM.below) (hg.kids.on hM.below) (by omega) (by omega)) (congrArg Value.bool h6)) fun a w hK hM => ?_
     refine sP hK 30 (.bool true) (by kernel_rfl) (by kernel_rfl) fun a hK => ?_
     refine sM hK 4 30 (by kernel_rfl) (.inr rfl) rfl fun a hK => ?_
     refine rps ?_
     refine wp_ret ?_
     exact ret_t hK rfl (u := (.bool true)) rfl (⟨by rw [same_ex, (decide_eq_true h3), (decide_eq_true h4), (decide_eq_true h5), h6]; rfl, hM.below⟩)
    ·refine sR hK hM 29 #[.slice e.A e.ks.length e.c, .slice g.A g.ks.length g.c, .func (.func 9) #[] #[]] (.bool false) (by kernel_rfl) (rC en_api_Expr_ rfl rfl (by kernel_rfl)) (ret_eq (ast_eqEx e.ks ih g.ks _ _ _ _ _ (he.kids.on hM.below) (hg.kids.on hM.below) (by omega) (by omega)) (congrArg Value.bool h6)) fun a w hK hM => ?_
     refine sP hK 30 (.bool false) (by kernel_rfl) (by kernel_rfl) fun a hK => ?_
     refine sM hK 4 30 (by kernel_rfl) (.inr rfl) rfl fun a hK => ?_
     refine rps ?_
     refine wp_ret ?_
     exact ret_t hK rfl (u := (.bool false)) rfl (⟨by rw [same_ex, (decide_eq_true h3), (decide_eq_true h4), (decide_eq_true h5), h6]; rfl, hM.below⟩)
   ·refine sP hK 22 (.bool false) (by kernel_rfl) (oB (b := (decide (e.nm = g.nm))) (run_eqS rfl rfl rfl) (decide_eq_false h5)) fun a hK => ?_
    refine sP hK 23 (.bool false) (by kernel_rfl) (by kernel_rfl) fun a hK => ?_
    refine sM hK 24 23 (by kernel_rfl) (.inl rfl) rfl fun a hK => ?_
    refine sN hK 25 (by kernel_rfl) fun a hK => ?_
    refine sN hK 26 (by kernel_rfl) fun a hK => ?_
    refine sN hK 27 (by kernel_rfl) fun a hK => ?_
    refine sN hK 28 (by kernel_rfl) fun a hK => ?_
    refine sN hK 29 (by kernel_rfl) fun a hK => ?_
    refine sP hK 30 (.bool false) (by kernel_rfl) (by kernel_rfl) fun a hK => ?_
    refine sM hK 4 30 (by kernel_rfl) (.inr rfl) rfl fun a hK => ?_
    refine rps ?_
    refine wp_ret ?_
    exact ret_t hK rfl (u := (.bool false)) rfl (⟨by rw [same_ex, (decide_eq_true h3), (decide_eq_true h4), (decide_eq_false h5)]; rfl, hM.below⟩)
  ·refine sP hK 15 (.bool false) (by kernel_rfl) (oB (b := (decide ((e.num : Int) = g.num))) (by kernel_rfl) (decide_eq_false h4)) fun a hK => ?_
   refine sP hK 16 (.bool false) (by kernel_rfl) (by kernel_rfl) fun a hK => ?_
   refine sM hK 17 16 (by kernel_rfl) (.inl rfl) rfl fun a hK => ?_
   refine sN hK 18 (by kernel_rfl) fun a hK => ?_
   refine sN hK 19 (by kernel_rfl) fun a hK => ?_
   refine sN hK 20 (by kernel_rfl) fun a hK => ?_
   refine sN hK 21 (by kernel_rfl) fun a hK => ?_
   refine sN hK 22 (by kernel_rfl) fun a hK => ?_
   refine sP hK 23 (.bool false) (by kernel_rfl) (by kernel_rfl) fun a hK => ?_
   refine sM hK 24 23 (by kernel_rfl) (.inl rfl) rfl fun a hK => ?_
   refine sN hK 25 (by kernel_rfl) fun a hK => ?_
   refine sN hK 26 (by kernel_rfl) fun a hK => ?_
   refine sN hK 27 (by kernel_rfl) fun a hK => ?_
   refine sN hK 28 (by kernel_rfl) fun a hK => ?_
   refine sN hK 29 (by kernel_rfl) fun a hK => ?_
   refine sP hK 30 (.bool false) (by kernel_rfl) (by kernel_rfl) fun a hK => ?_
   refine sM hK 4 30 (by kernel_rfl) (.inr rfl) rfl fun a hK => ?_
   refine rps ?_
   refine wp_ret ?_
   exact ret_t hK rfl (u := (.bool false)) rfl (⟨by rw [same_ex, (decide_eq_true h3), (decide_eq_false h4)]; rfl, hM.below⟩)
 ·refine sP hK 9 (.bool false) (by kernel_rfl) (oB (b := (decide ((e.op : Int) = g.op))) (by kernel_rfl) (decide_eq_false h3)) fun a hK => ?_
  refine sM hK 10 9 (by kernel_rfl) (.inl rfl) rfl fun a hK => ?_
  refine sN hK 11 (by kernel_rfl) fun a hK => ?_
  refine sN hK 12 (by kernel_rfl) fun a hK => ?_
  refine sN hK 13 (by kernel_rfl) fun a hK => ?_
  refine sN hK 14 (by kernel_rfl) fun a hK => ?_
  refine sN hK 15 (by kernel_rfl) fun a hK => ?_
  refine sP hK 16 (.bool false) (by kernel_rfl) (by kernel_rfl) fun a hK => ?_
  refine sM hK 17 16 (by kernel_rfl) (.inl rfl) rfl fun a hK => ?_
  refine sN hK 18 (by kernel_rfl) fun a hK => ?_
  refine sN hK 19 (by kernel_rfl) fun a hK => ?_
  refine sN hK 20 (by kernel_rfl) fun a hK => ?_
  refine sN hK 21 (by kernel_rfl) fun a hK => ?_
  refine sN hK 22 (by kernel_rfl) fun a hK => ?_
  refine sP hK 23 (.bool false) (by kernel_rfl) (by kernel_rfl) fun a hK => ?_
  refine sM hK 24 23 (by kernel_rfl) (.inl rfl) rfl fun a hK => ?_
  refine sN hK 25 (by kernel_rfl) fun a hK => ?_
  refine sN hK 26 (by kernel_rfl) fun a hK => ?_
  refine sN hK 27 (by kernel_rfl) fun a hK => ?_
  refine sN hK 28 (by kernel_rfl) fun a hK => ?_
  refine sN hK 29 (by kernel_rfl) fun a hK => ?_
  refine sP hK 30 (.bool false) (by kernel_rfl) (by kernel_rfl) fun a hK => ?_
  refine sM hK 4 30 (by kernel_rfl) (.inr rfl) rfl fun a hK => ?_
  refine rps ?_
  refine wp_ret ?_
  exact ret_t hK rfl (u := (.bool false)) rfl (⟨by rw [same_ex, (decide_eq_false h3)]; rfl, hM.below⟩)
end Go.Proofs.YtiigncmpbkfhmaaGreatDoor
namespace Go.Proofs.YtiigncmpbkfhmaaGreatDoor
open Go Go.RowKit
theorem same_sm (s t : Sm) : s.same t = (decide (s.kind = t.kind) && (decide (s.nm = t.nm) && (decide (s.loc = t.loc) && (decide (s.ord = t.ord) && (exsEq s.es t.es && (smsEq s.th t.th && smsEq s.el t.el)))))) := by
 rw [sm_same]
 unfold smNe exsEq neI neS
 cases decide (s.kind = t.kind) <;> cases decide (s.nm = t.nm) <;> cases decide (s.loc = t.loc) <;> cases decide (s.ord = t.ord) <;> cases decide (((s.es.length : Nat) : Int) = ((t.es.length : Nat) : Int)) <;> cases exsSame s.es t.es <;> cases smsEq s.th t.th <;> cases smsEq s.el t.el <;> rfl
theorem same_sm2 (s t : Sm) : s.same t = (!(!(decide (s.kind = t.kind)) || (!(decide (s.nm = t.nm)) || (!(decide (s.loc = t.loc)) || (!(decide (s.ord = t.ord)) || (!(exsEq s.es t.es) || (!(smsEq s.th t.th) || !(smsEq s.el t.el)))))))) := by
 rw [same_sm]
 cases decide (s.kind = t.kind) <;> cases decide (s.nm = t.nm) <;> cases decide (s.loc = t.loc) <;> cases decide (s.ord = t.ord) <;> cases exsEq s.es t.es <;> cases smsEq s.th t.th <;> cases smsEq s.el t.el <;> rfl
theorem en_eq_Stmt : Enters Tryz.prog 61 := enters_of Tryz.func61 (by kernel_rfl) rfl
theorem en_cantileverkit_Stmts : Enters Tryz.prog 30 := enters_of Tryz.func30 (by kernel_rfl) rfl
theorem en_ast_sameStmt : Enters Tryz.prog 62 := enters_of Tryz.func62 (by kernel_rfl) rfl
theorem en_ast_sameStmts : Enters Tryz.prog 27 := enters_of Tryz.func27 (by kernel_rfl) rfl
set_option maxRecDepth 100000 in
set_option maxHeartbeats 4000000 in
theorem kit_Stmts (l : List Sm) : ∀ (m : List Sm) (A : Option Addr) (c : Nat) (B : Option Addr) (d : Nat) (w0 : World), SmsAt w0 A l → SmsAt w0 B m → l.length ≤ 9223372036854775807 → m.length ≤ 9223372036854775807 → Calls Tryz.prog 30 #[.slice A l.length c, .slice B m.length d] w0 (Ret w0 (.bool (smsEq l m))) := by
 induction l using sms_rec
 rename_i l ih
 intro m A c B d w0 hl hm hln hmn
 refine calls_K (args := [.slice A l.length c, .slice B m.length d]) (n := 77) (env := [(0, .slice A l.length c), (1, .slice B m.length d)]) Tryz.func30 rfl rfl rfl ⟨rfl, rfl, trivial⟩ fun a w hK hM => ?_
 refine wp_seq ?_
 refine rg1 (by kernel_rfl) ?_
 refine sP hK 4 (.bool false) (by kernel_rfl) (by kernel_rfl) fun a hK => ?_
 refine rps ?_
 refine wp_seq ?_
 refine wp_seq ?_
 refine rg5 (by kernel_rfl) ?_
 refine sM hK 8 0 (by kernel_rfl) (.inl rfl) rfl fun a hK => ?_
 refine sP hK 9 (.int .i64 ((l.length : Nat) : Int)) (by kernel_rfl) (by kernel_rfl) fun a hK => ?_
 refine sM hK 10 1 (by kernel_rfl) (.inl rfl) rfl fun a hK => ?_
 refine sP hK 11 (.int .i64 ((m.length : Nat) : Int)) (by kernel_rfl) (by kernel_rfl) fun a hK => ?_
 rcases Bool.eq_false_or_eq_true (!(decide ((((l.length : Nat) : Int) : Int) = ((m.length : Nat) : Int)))) with h1 | h1
 ·refine sP hK 12 (.bool true) (by kernel_rfl) (oB (b := (!(decide ((((l.length : Nat) : Int) : Int) = ((m.length : Nat) : Int))))) (by kernel_rfl) h1) fun a hK => ?_
  refine rps ?_
  refine wp_cond_true (hK.get rfl) ?_
  refine wp_seq ?_
  refine rg1 (by kernel_rfl) ?_
  refine sP hK 4 (.bool false) (by kernel_rfl) (by kernel_rfl) fun a hK => ?_
  refine rps ?_
  refine wp_ret ?_
  exact ret_t hK rfl (u := (.bool false)) rfl (⟨by unfold smsEq neI; rw [h1]; rfl, hM.below⟩)
 ·refine sP hK 12 (.bool false) (by kernel_rfl) (oB (b := (!(decide ((((l.length : Nat) : Int) : Int) = ((m.length : Nat) : Int))))) (by kernel_rfl) h1) fun a hK => ?_
  refine rps ?_
  refine wp_cond_false (hK.get rfl) ?_
  refine wp_skip ?_
  refine wp_seq ?_
  refine wp_seq ?_
  have hne : neI ((l.length : Nat) : Int) ((m.length : Nat) : Int) = false := by unfold neI; rw [h1]
  have hlen : l.length = m.length := by have q := h1; simp at q; omega
  refine rg1 (by kernel_rfl) ?_
  refine sP hK 5 (.int .i64 0) (by kernel_rfl) (by kernel_rfl) fun a hK => ?_
  refine rps ?_
  refine wp_block ?_
  refine wLX (fun x : Nat => [(12, .bool false), (4, .bool false), (0, .slice A l.length c), (1, .slice B m.length d), (5, vN x)]) (fun x : Nat => []) (fun x : Nat => x ≤ l.length ∧ smsSame (l.drop x) (m.drop x) = smsSame l m) (fun x : Nat => l.length - x) 0 (hK.sub ⟨rfl, rfl, rfl, rfl, rfl, trivial⟩) hM ⟨Nat.zero_le _, rfl⟩ ?_
  rintro i a w hK hM hR
  replace hK : Knows a 77 [(12, .bool false), (4, .bool false), (0, .slice A l.length c), (1, .slice B m.length d), (5, vN i)] := hK
  replace hM : Mem w0 w [] := hM
  replace hR : i ≤ l.length ∧ smsSame (l.drop i) (m.drop i) = smsSame l m := hR
  refine wp_seq ?_
  refine wp_seq ?_
  refine rg4 (by kernel_rfl) ?_
  refine sM hK 13 5 (by kernel_rfl) (.inl rfl) rfl fun a hK => ?_
  refine sM hK 14 0 (by kernel_rfl) (.inl rfl) rfl fun a hK => ?_
  refine sP hK 15 (.int .i64 ((l.length : Nat) : Int)) (by kernel_rfl) (by kernel_rfl) fun a hK => ?_
  by_cases h2 : (((i : Nat) : Int) : Int) < ((l.length : Nat) : Int)
  ·refine sP hK 16 (.bool true) (by kernel_rfl) (oB (b := (decide ((((i : Nat) : Int) : Int) < ((l.length : Nat) : Int)))) (by kernel_rfl) (decide_eq_true h2)) fun a hK => ?_
   refine rps ?_
   refine wp_cond_true (hK.get rfl) ?_
   refine wp_skip ?_
   refine wp_seq ?_
   refine wp_block ?_
   refine wp_seq ?_
   obtain ⟨t3, ht3⟩ : ∃ t, l[(i : Nat)]? = some t := ⟨_, List.getElem?_eq_getElem (by omega)⟩
   obtain ⟨⟨at3, At3, ct3⟩, et3⟩ := hl _ _ ht3; have nt3 := et3.len
   obtain ⟨t4, ht4⟩ : ∃ t, m[(i : Nat)]? = some t := ⟨_, List.getElem?_eq_getElem (by omega)⟩
   obtain ⟨⟨at4, At4, ct4⟩, et4⟩ := hm _ _ ht4; have nt4 := et4.len
   refine region_made_strip (F := fun w => Mem w0 w []) hK hM [.val (.slice A l.length c), .val (vN i), .val (.pointer (some (at3.add (i * 7)))), .val (vS t3), .val (.slice B m.length d), .val (vN i), .val (.pointer (some (at4.add (i * 7)))), .val (vS t4), .lay 64 [.int .i64 0, Str [], Str [], .int .i64 0, .slice none 0 0, .slice none 0 0, .slice none 0 0], .lay 64 [.int .i64 0, Str [], Str [], .int .i64 0, .slice none 0 0, .slice none 0 0, .slice none 0 0], .put 8 (cS t3), .put 9 (cS t4)] 12 (fun _ h => h) (by kernel_rfl) (by kernel_rfl) ⟨⟨⟨⟨⟨⟨⟨⟨⟨⟨⟨⟨trivial, ?_⟩, ?_⟩, ?_⟩, ?_⟩, ?_⟩, ?_⟩, ?_⟩, ?_⟩, ?_⟩, ?_⟩, ?_⟩, ?_⟩ (fun β => [(7, .pointer (some ⟨(β 9), 0, none⟩)), (6, .pointer (some ⟨(β 8), 0, none⟩)), (16, .bool true), (12, .bool false), (4, .bool false), (0, .slice A l.length c), (1, .slice B m.length d), (5, vN i)]) (fun β => by kernel_rfl) ?_
   ·exact .val (.slice A l.length c) rfl (fun β => by kernel_rfl) (fun β w hM => (by kernel_rfl))
   ·exact .val (vN i) rfl (fun β => by kernel_rfl) (fun β w hM => (by kernel_rfl))
   ·exact .val (.pointer (some (at3.add (i * 7)))) rfl (fun β => by kernel_rfl) (fun β w hM => (rX (k := i) (s := 7) rfl rfl At3 rfl Tryz.underlying38 (by kernel_rfl) (by omega)))
   ·exact .val (vS t3) rfl (fun β => by kernel_rfl) (fun β w hM => rL rfl rfl ((ct3.on hM.below)) (by kernel_rfl))
   ·exact .val (.slice B m.length d) rfl (fun β => by kernel_rfl) (fun β w hM => (by kernel_rfl))
   ·exact .val (vN i) rfl (fun β => by kernel_rfl) (fun β w hM => (by kernel_rfl))
   ·exact .val (.pointer (some (at4.add (i * 7)))) rfl (fun β => by kernel_rfl) (fun β w hM => (rX (k := i) (s := 7) rfl rfl At4 rfl Tryz.underlying38 (by kernel_rfl) (by omega)))
   ·exact .val (vS t4) rfl (fun β => by kernel_rfl) (fun β w hM => rL rfl rfl ((ct4.on hM.below)) (by kernel_rfl))
   ·exact .lay 64 [.int .i64 0, Str [], Str [], .int .i64 0, .slice none 0 0, .slice none 0 0, .slice none 0 0] rfl (fun β => by kernel_rfl) (fun β w => by kernel_rfl)
   ·exact .lay 64 [.int .i64 0, Str [], Str [], .int .i64 0, .slice none 0 0, .slice none 0 0, .slice none 0 0] rfl (fun β => by kernel_rfl) (fun β w => by kernel_rfl)
   ·exact .put 8 64 [.int .i64 0, Str [], Str [], .int .i64 0, .slice none 0 0, .slice none 0 0, .slice none 0 0] (cS t3) 64 _ _ (vS t3) rfl rfl (fun β => by kernel_rfl) rfl (fun β => rfl) (fun β => rfl) (by kernel_rfl) (by kernel_rfl) (by kernel_rfl)
   ·exact .put 9 64 [.int .i64 0, Str [], Str [], .int .i64 0, .slice none 0 0, .slice none 0 0, .slice none 0 0] (cS t4) 64 _ _ (vS t4) rfl rfl (fun β => by kernel_rfl) rfl (fun β => rfl) (fun β => rfl) (by kernel_rfl) (by kernel_rfl) (by kernel_rfl)
   intro β7 a w hK hM
   have hK2 := hK; have hM2 := hM; clear hK hM
   have hK : Knows a 77 [(7, .pointer (some ⟨(β7 9), 0, none⟩)), (6, .pointer (some ⟨(β7 8), 0, none⟩)), (16, .bool true), (12, .bool false), (4, .bool false), (0, .slice A l.length c), (1, .slice B m.length d), (5, vN i)] := hK2
   have hM := hM2.to [.row (β7 8) 64 (cS t3), .row (β7 9) 64 (cS t4)] (by kernel_rfl)
   clear hK2 hM2
   generalize β7 8 = b5 at hK hM
   generalize β7 9 = b6 at hK hM
   refine wp_seq ?_
   refine rg50 (by kernel_rfl) ?_
   refine sP hK 27 (pA b5 0) (by kernel_rfl) (by kernel_rfl) fun a hK => ?_
   refine sL hK 28 (.int .i64 t3.kind) (by kernel_rfl) rfl rfl ((hM.row 0 rfl).cells 0 1) (by kernel_rfl) fun a hK => ?_
   refine sP hK 29 (pA b6 0) (by kernel_rfl) (by kernel_rfl) fun a hK => ?_
   refine sL hK 30 (.int .i64 t4.kind) (by kernel_rfl) rfl rfl ((hM.row 1 rfl).cells 0 1) (by kernel_rfl) fun a hK => ?_
   rcases Bool.eq_false_or_eq_true (!(decide ((t3.kind : Int) = t4.kind))) with h8 | h8
   ·refine sP hK 31 (.bool true) (by kernel_rfl) (oB (b := (!(decide ((t3.kind : Int) = t4.kind)))) (by kernel_rfl) h8) fun a hK => ?_
    refine sM hK 32 31 (by kernel_rfl) (.inl rfl) rfl fun a hK => ?_
    refine sN hK 33 (by kernel_rfl) fun a hK => ?_
    refine sN hK 34 (by kernel_rfl) fun a hK => ?_
    refine sN hK 35 (by kernel_rfl) fun a hK => ?_
    refine sN hK 36 (by kernel_rfl) fun a hK => ?_
    refine sN hK 37 (by kernel_rfl) fun a hK => ?_
    refine sP hK 38 (.bool true) (by kernel_rfl) (by kernel_rfl) fun a hK => ?_
    refine sM hK 39 38 (by kernel_rfl) (.inl rfl) rfl fun a hK => ?_
    refine sN hK 40 (by kernel_rfl) fun a hK => ?_
    refine sN hK 41 (by kernel_rfl) fun a hK => ?_
    refine sN hK 42 (by kernel_rfl) fun a hK => ?_
    refine sN hK 43 (by kernel_rfl) fun a hK => ?_
    refine sN hK 44 (by kernel_rfl) fun a hK => ?_
    refine sP hK 45 (.bool true) (by kernel_rfl) (by kernel_rfl) fun a hK => ?_
    refine sM hK 46 45 (by kernel_rfl) (.inl rfl) rfl fun a hK => ?_
    refine sN hK 47 (by kernel_rfl) fun a hK => ?_
    refine sN hK 48 (by kernel_rfl) fun a hK => ?_
    refine sN hK 49 (by kernel_rfl) fun a hK => ?_
    refine sN hK 50 (by kernel_rfl) fun a hK => ?_
    refine sN hK 51 (by kernel_rfl) fun a hK => ?_
    refine sP hK 52 (.bool true) (by kernel_rfl) (by kernel_rfl) fun a hK => ?_
    refine sM hK 53 52 (by kernel_rfl) (.inl rfl) rfl fun a hK => ?_
    refine sN hK 54 (by kernel_rfl) fun a hK => ?_
    refine sN hK 55 (by kernel_rfl) fun a hK => ?_
    refine sN hK 56 (by kernel_rfl) fun a hK => ?_
    refine sN hK 57 (by kernel_rfl) fun a hK => ?_
    refine sN hK 58 (by kernel_rfl) fun a hK => ?_
    refine sN hK 59 (by kernel_rfl) fun a hK => ?_
    refine sP hK 60 (.bool true) (by kernel_rfl) (by kernel_rfl) fun a hK => ?_
    refine sM hK 61 60 (by kernel_rfl) (.inl rfl) rfl fun a hK => ?_
    refine sN hK 62 (by kernel_rfl) fun a hK => ?_
    refine sN hK 63 (by kernel_rfl) fun a hK => ?_
    refine sN hK 64 (by kernel_rfl) fun a hK => ?_
    refine sN hK 65 (by kernel_rfl) fun a hK => ?_
    refine sN hK 66 (by kernel_rfl) fun a hK => ?_
    refine sN hK 67 (by kernel_rfl) fun a hK => ?_
    refine sP hK 68 (.bool true) (by kernel_rfl) (by kernel_rfl) fun a hK => ?_
    refine sM hK 69 68 (by kernel_rfl) (.inl rfl) rfl fun a hK => ?_
    refine sN hK 70 (by kernel_rfl) fun a hK => ?_
    refine sN hK 71 (by kernel_rfl) fun a hK => ?_
    refine sN hK 72 (by kernel_rfl) fun a hK => ?_
    refine sN hK 73 (by kernel_rfl) fun a hK => ?_
    refine sN hK 74 (by kernel_rfl) fun a hK => ?_
    refine sN hK 75 (by kernel_rfl) fun a hK => ?_
    refine sP hK 76 (.bool true) (by kernel_rfl) (by kernel_rfl) fun a hK => ?_
    refine rps ?_
    refine wp_cond_true (hK.get rfl) ?_
    refine wp_seq ?_
    refine rg1 (by kernel_rfl) ?_
    refine sP hK 4 (.bool false) (by kernel_rfl) (by kernel_rfl) fun a hK => ?_
    refine rps ?_
    refine wp_ret ?_
    exact ret_t hK rfl (u := (.bool false)) rfl (⟨by have hs : t3.same t4 = false := (by rw [same_sm2, h8]; rfl); unfold smsEq; rw [hne, ← hR.2, smsSame_step ht3 ht4, hs]; rfl, hM.below⟩)
   ·refine sP hK 31 (.bool false) (by kernel_rfl) (oB (b := (!(decide ((t3.kind : Int) = t4.kind)))) (by kernel_rfl) h8) fun a hK => ?_
    refine sM hK 32 31 (by kernel_rfl) (.inl rfl) rfl fun a hK => ?_
    refine sP hK 33 (pA b5 1) (by kernel_rfl) (by kernel_rfl) fun a hK => ?_
    refine sL hK 34 (Str t3.nm) (by kernel_rfl) rfl rfl ((hM.row 0 rfl).cells 1 1) (by kernel_rfl) fun a hK => ?_
    refine sP hK 35 (pA b6 1) (by kernel_rfl) (by kernel_rfl) fun a hK => ?_
    refine sL hK 36 (Str t4.nm) (by kernel_rfl) rfl rfl ((hM.row 1 rfl).cells 1 1) (by kernel_rfl) fun a hK => ?_
    rcases Bool.eq_false_or_eq_true (!(decide (t3.nm = t4.nm))) with h9 | h9
    ·refine sP hK 37 (.bool true) (by kernel_rfl) (oB (b := (!(decide (t3.nm = t4.nm)))) (run_neS rfl rfl rfl) h9) fun a hK => ?_
     refine sP hK 38 (.bool true) (by kernel_rfl) (by kernel_rfl) fun a hK => ?_
     refine sM hK 39 38 (by kernel_rfl) (.inl rfl) rfl fun a hK => ?_
     refine sN hK 40 (by kernel_rfl) fun a hK => ?_
     refine sN hK 41 (by kernel_rfl) fun a hK => ?_
     refine sN hK 42 (by kernel_rfl) fun a hK => ?_
     refine sN hK 43 (by kernel_rfl) fun a hK => ?_
     refine sN hK 44 (by kernel_rfl) fun a hK => ?_
     refine sP hK 45 (.bool true) (by kernel_rfl) (by kernel_rfl) fun a hK => ?_
     refine sM hK 46 45 (by kernel_rfl) (.inl rfl) rfl fun a hK => ?_
     refine sN hK 47 (by kernel_rfl) fun a hK => ?_
     refine sN hK 48 (by kernel_rfl) fun a hK => ?_
     refine sN hK 49 (by kernel_rfl) fun a hK => ?_
     refine sN hK 50 (by kernel_rfl) fun a hK => ?_
     refine sN hK 51 (by kernel_rfl) fun a hK => ?_
     refine sP hK 52 (.bool true) (by kernel_rfl) (by kernel_rfl) fun a hK => ?_
     refine sM hK 53 52 (by kernel_rfl) (.inl rfl) rfl fun a hK => ?_
     refine sN hK 54 (by kernel_rfl) fun a hK => ?_
     refine sN hK 55 (by kernel_rfl) fun a hK => ?_
     refine sN hK 56 (by kernel_rfl) fun a hK => ?_
     refine sN hK 57 (by kernel_rfl) fun a hK => ?_
     refine sN hK 58 (by kernel_rfl) fun a hK => ?_
     refine sN hK 59 (by kernel_rfl) fun a hK => ?_
     refine sP hK 60 (.bool true) (by kernel_rfl) (by kernel_rfl) fun a hK => ?_
     refine sM hK 61 60 (by kernel_rfl) (.inl rfl) rfl fun a hK => ?_
     refine sN hK 62 (by kernel_rfl) fun a hK => ?_
     refine sN hK 63 (by kernel_rfl) fun a hK => ?_
     refine sN hK 64 (by kernel_rfl) fun a hK => ?_
     refine sN hK 65 (by kernel_rfl) fun a hK => ?_
     refine sN hK 66 (by kernel_rfl) fun a hK => ?_
     refine sN hK 67 (by kernel_rfl) fun a hK => ?_
     refine sP hK 68 (.bool true) (by kernel_rfl) (by kernel_rfl) fun a hK => ?_
     refine sM hK 69 68 (by kernel_rfl) (.inl rfl) rfl fun a hK => ?_
     refine sN hK 70 (by kernel_rfl) fun a hK => ?_
     refine sN hK 71 (by kernel_rfl) fun a hK => ?_
     refine sN hK 72 (by kernel_rfl) fun a hK => ?_
     refine sN hK 73 (by kernel_rfl) fun a hK => ?_
     refine sN hK 74 (by kernel_rfl) fun a hK => ?_
     refine sN hK 75 (by kernel_rfl) fun a hK => ?_
     refine sP hK 76 (.bool true) (by kernel_rfl) (by kernel_rfl) fun a hK => ?_
     refine rps ?_
     refine wp_cond_true (hK.get rfl) ?_
     refine wp_seq ?_
     refine rg1 (by kernel_rfl) ?_
     refine sP hK 4 (.bool false) (by kernel_rfl) (by kernel_rfl) fun a hK => ?_
     refine rps ?_
     refine wp_ret ?_
     exact ret_t hK rfl (u := (.bool false)) rfl (⟨by have hs : t3.same t4 = false := (by rw [same_sm2, h8, h9]; rfl); unfold smsEq; rw [hne, ← hR.2, smsSame_step ht3 ht4, hs]; rfl, hM.below⟩)
    ·refine sP hK 37 (.bool false) (by kernel_rfl) (oB (b := (!(decide (t3.nm = t4.nm)))) (run_neS rfl rfl rfl) h9) fun a hK => ?_
     refine sP hK 38 (.bool false) (by kernel_rfl) (by kernel_rfl) fun a hK => ?_
     refine sM hK 39 38 (by kernel_rfl) (.inl rfl) rfl fun a hK => ?_
     refine sP hK 40 (pA b5 2) (by kernel_rfl) (by kernel_rfl) fun a hK => ?_
     refine sL hK 41 (Str t3.loc) (by kernel_rfl) rfl rfl ((hM.row 0 rfl).cells 2 1) (by kernel_rfl) fun a hK => ?_
     refine sP hK 42 (pA b6 2) (by kernel_rfl) (by kernel_rfl) fun a hK => ?_
     refine sL hK 43 (Str t4.loc) (by kernel_rfl) rfl rfl ((hM.row 1 rfl).cells 2 1) (by kernel_rfl) fun a hK => ?_
     rcases Bool.eq_false_or_eq_true (!(decide (t3.loc = t4.loc))) with h10 | h10
     ·refine sP hK 44 (.bool true) (by kernel_rfl) (oB (b := (!(decide (t3.loc = t4.loc)))) (run_neS rfl rfl rfl) h10) fun a hK => ?_
      refine sP hK 45 (.bool true) (by kernel_rfl) (by kernel_rfl) fun a hK => ?_
      refine sM hK 46 45 (by kernel_rfl) (.inl rfl) rfl fun a hK => ?_
      refine sN hK 47 (by kernel_rfl) fun a hK => ?_
      refine sN hK 48 (by kernel_rfl) fun a hK => ?_
      refine sN hK 49 (by kernel_rfl) fun a hK => ?_
      refine sN hK 50 (by kernel_rfl) fun a hK => ?_
      refine sN hK 51 (by kernel_rfl) fun a hK => ?_
      refine sP hK 52 (.bool true) (by kernel_rfl) (by kernel_rfl) fun a hK => ?_
      refine sM hK 53 52 (by kernel_rfl) (.inl rfl) rfl fun a hK => ?_
      refine sN hK 54 (by kernel_rfl) fun a hK => ?_
      refine sN hK 55 (by kernel_rfl) fun a hK => ?_
      refine sN hK 56 (by kernel_rfl) fun a hK => ?_
      refine sN hK 57 (by kernel_rfl) fun a hK => ?_
      refine sN hK 58 (by kernel_rfl) fun a hK => ?_
      refine sN hK 59 (by kernel_rfl) fun a hK => ?_
      refine sP hK 60 (.bool true) (by kernel_rfl) (by kernel_rfl) fun a hK => ?_
      refine sM hK 61 60 (by kernel_rfl) (.inl rfl) rfl fun a hK => ?_
      refine sN hK 62 (by kernel_rfl) fun a hK => ?_
      refine sN hK 63 (by kernel_rfl) fun a hK => ?_
      refine sN hK 64 (by kernel_rfl) fun a hK => ?_
      refine sN hK 65 (by kernel_rfl) fun a hK => ?_
      refine sN hK 66 (by kernel_rfl) fun a hK => ?_
      refine sN hK 67 (by kernel_rfl) fun a hK => ?_
      refine sP hK 68 (.bool true) (by kernel_rfl) (by kernel_rfl) fun a hK => ?_
      refine sM hK 69 68 (by kernel_rfl) (.inl rfl) rfl fun a hK => ?_
      refine sN hK 70 (by kernel_rfl) fun a hK => ?_
      refine sN hK 71 (by kernel_rfl) fun a hK => ?_
      refine sN hK 72 (by kernel_rfl) fun a hK => ?_
      refine sN hK 73 (by kernel_rfl) fun a hK => ?_
      refine sN hK 74 (by kernel_rfl) fun a hK => ?_
      refine sN hK 75 (by kernel_rfl) fun a hK => ?_
      refine sP hK 76 (.bool true) (by kernel_rfl) (by kernel_rfl) fun a hK => ?_
      refine rps ?_
      refine wp_cond_true (hK.get rfl) ?_
      refine wp_seq ?_
      refine rg1 (by kernel_rfl) ?_
      refine sP hK 4 (.bool false) (by kernel_rfl) (by kernel_rfl) fun a hK => ?_
      refine rps ?_
      refine wp_ret ?_
      exact ret_t hK rfl (u := (.bool false)) rfl (⟨by have hs : t3.same t4 = false := (by rw [same_sm2, h8, h9, h10]; rfl); unfold smsEq; rw [hne, ← hR.2, smsSame_step ht3 ht4, hs]; rfl, hM.below⟩)
     ·refine sP hK 44 (.bool false) (by kernel_rfl) (oB (b := (!(decide (t3.loc = t4.loc)))) (run_neS rfl rfl rfl) h10) fun a hK => ?_
      refine sP hK 45 (.bool false) (by kernel_rfl) (by kernel_rfl) fun a hK => ?_
      refine sM hK 46 45 (by kernel_rfl) (.inl rfl) rfl fun a hK => ?_
      refine sP hK 47 (pA b5 3) (by kernel_rfl) (by kernel_rfl) fun a hK => ?_
      refine sL hK 48 (.int .i64 t3.ord) (by kernel_rfl) rfl rfl ((hM.row 0 rfl).cells 3 1) (by kernel_rfl) fun a hK => ?_
      refine sP hK 49 (pA b6 3) (by kernel_rfl) (by kernel_rfl) fun a hK => ?_
      refine sL hK 50 (.int .i64 t4.ord) (by kernel_rfl) rfl rfl ((hM.row 1 rfl).cells 3 1) (by kernel_rfl) fun a hK => ?_
      rcases Bool.eq_false_or_eq_true (!(decide ((t3.ord : Int) = t4.ord))) with h11 | h11
      ·refine sP hK 51 (.bool true) (by kernel_rfl) (oB (b := (!(decide ((t3.ord : Int) = t4.ord)))) (by kernel_rfl) h11) fun a hK => ?_
       refine sP hK 52 (.bool true) (by kernel_rfl) (by kernel_rfl) fun a hK => ?_
       refine sM hK 53 52 (by kernel_rfl) (.inl rfl) rfl fun a hK => ?_
       refine sN hK 54 (by kernel_rfl) fun a hK => ?_
       refine sN hK 55 (by kernel_rfl) fun a hK => ?_
       refine sN hK 56 (by kernel_rfl) fun a hK => ?_
       refine sN hK 57 (by kernel_rfl) fun a hK => ?_
       refine sN hK 58 (by kernel_rfl) fun a hK => ?_
       refine sN hK 59 (by kernel_rfl) fun a hK => ?_
       refine sP hK 60 (.bool true) (by kernel_rfl) (by kernel_rfl) fun a hK => ?_
       refine sM hK 61 60 (by kernel_rfl) (.inl rfl) rfl fun a hK => ?_
       refine sN hK 62 (by kernel_rfl) fun a hK => ?_
       refine sN hK 63 (by kernel_rfl) fun a hK => ?_
       refine sN hK 64 (by kernel_rfl) fun a hK => ?_
       refine sN hK 65 (by kernel_rfl) fun a hK => ?_
       refine sN hK 66 (by kernel_rfl) fun a hK => ?_
       refine sN hK 67 (by kernel_rfl) fun a hK => ?_
       refine sP hK 68 (.bool true) (by kernel_rfl) (by kernel_rfl) fun a hK => ?_
       refine sM hK 69 68 (by kernel_rfl) (.inl rfl) rfl fun a hK => ?_
       refine sN hK 70 (by kernel_rfl) fun a hK => ?_
       refine sN hK 71 (by kernel_rfl) fun a hK => ?_
       refine sN hK 72 (by kernel_rfl) fun a hK => ?_
       refine sN hK 73 (by kernel_rfl) fun a hK => ?_
       refine sN hK 74 (by kernel_rfl) fun a hK => ?_
       refine sN hK 75 (by kernel_rfl) fun a hK => ?_
       refine sP hK 76 (.bool true) (by kernel_rfl) (by kernel_rfl) fun a hK => ?_
       refine rps ?_
       refine wp_cond_true (hK.get rfl) ?_
       refine wp_seq ?_
       refine rg1 (by kernel_rfl) ?_
       refine sP hK 4 (.bool false) (by kernel_rfl) (by kernel_rfl) fun a hK => ?_
       refine rps ?_
       refine wp_ret ?_
       exact ret_t hK rfl (u := (.bool false)) rfl (⟨by have hs : t3.same t4 = false := (by rw [same_sm2, h8, h9, h10, h11]; rfl); unfold smsEq; rw [hne, ← hR.2, smsSame_step ht3 ht4, hs]; rfl, hM.below⟩)
      ·refine sP hK 51 (.bool false) (by kernel_rfl) (oB (b := (!(decide ((t3.ord : Int) = t4.ord)))) (by kernel_rfl) h11) fun a hK => ?_
       refine sP hK 52 (.bool false) (by kernel_rfl) (by kernel_rfl) fun a hK => ?_
       refine sM hK 53 52 (by kernel_rfl) (.inl rfl) rfl fun a hK => ?_
       refine sP hK 54 (pA b5 4) (by kernel_rfl) (by kernel_rfl) fun a hK => ?_
       refine sL hK 55 (.slice t3.A1 t3.es.length t3.c1) (by kernel_rfl) rfl rfl ((hM.row 0 rfl).cells 4 1) (by kernel_rfl) fun a hK => ?_
       refine sP hK 56 (pA b6 4) (by kernel_rfl) (by kernel_rfl) fun a hK => ?_
       refine sL hK 57 (.slice t4.A1 t4.es.length t4.c1) (by kernel_rfl) rfl rfl ((hM.row 1 rfl).cells 4 1) (by kernel_rfl) fun a hK => ?_
       rcases Bool.eq_false_or_eq_true (exsEq t3.es t4.es) with h12 | h12
       ·refine sR hK hM 58 #[.slice t3.A1 t3.es.length t3.c1, .slice t4.A1 t4.es.length t4.c1] (.bool true) (by kernel_rfl) (rC en_cantileverkit_Exprs rfl rfl (by kernel_rfl)) (ret_eq (kit_Exprs0 t3.es (fun x _ => kit_Expr x) t4.es _ _ _ _ _ (et3.exprs.on hM.below) (et4.exprs.on hM.below) (by omega) (by omega)) (congrArg Value.bool h12)) fun a w hK hM => ?_
        refine sP hK 59 (.bool false) (by kernel_rfl) (by kernel_rfl) fun a hK => ?_
        refine sP hK 60 (.bool false) (by kernel_rfl) (by kernel_rfl) fun a hK => ?_
        refine sM hK 61 60 (by kernel_rfl) (.inl rfl) rfl fun a hK => ?_
        refine sP hK 62 (pA b5 5) (by kernel_rfl) (by kernel_rfl) fun a hK => ?_
        refine sL hK 63 (.slice t3.A2 t3.th.length t3.c2) (by kernel_rfl) rfl rfl ((hM.row 0 rfl).cells 5 1) (by kernel_rfl) fun a hK => ?_
        refine sP hK 64 (pA b6 5) (by kernel_rfl) (by kernel_rfl) fun a hK => ?_
        refine sL hK 65 (.slice t4.A2 t4.th.length t4.c2) (by kernel_rfl) rfl rfl ((hM.row 1 rfl).cells 5 1) (by kernel_rfl) fun a hK => ?_
        rcases Bool.eq_false_or_eq_true (smsEq t3.th t4.th) with h13 | h13
        ·refine sR hK hM 66 #[.slice t3.A2 t3.th.length t3.c2, .slice t4.A2 t4.th.length t4.c2] (.bool true) (by kernel_rfl) (rC en_cantileverkit_Stmts rfl rfl (by kernel_rfl)) (ret_eq ((ih t3 (List.mem_of_getElem? ht3)).1 t4.th _ _ _ _ _ (et3.thn.on hM.below) (et4.thn.on hM.below) (by omega) (by omega)) (congrArg Value.bool h13)) fun a w hK hM => ?_
         refine sP hK 67 (.bool false) (by kernel_rfl) (by kernel_rfl) fun a hK => ?_
         refine sP hK 68 (.bool false) (by kernel_rfl) (by kernel_rfl) fun a hK => ?_
         refine sM hK 69 68 (by kernel_rfl) (.inl rfl) rfl fun a hK => ?_
         refine sP hK 70 (pA b5 6) (by kernel_rfl) (by kernel_rfl) fun a hK => ?_
         refine sL hK 71 (.slice t3.A3 t3.el.length t3.c3) (by kernel_rfl) rfl rfl ((hM.row 0 rfl).cells 6 1) (by kernel_rfl) fun a hK => ?_
         refine sP hK 72 (pA b6 6) (by kernel_rfl) (by kernel_rfl) fun a hK => ?_
         refine sL hK 73 (.slice t4.A3 t4.el.length t4.c3) (by kernel_rfl) rfl rfl ((hM.row 1 rfl).cells 6 1) (by kernel_rfl) fun a hK => ?_
         rcases Bool.eq_false_or_eq_true (smsEq t3.el t4.el) with h14 | h14
         ·refine sR hK hM 74 #[.slice t3.A3 t3.el.length t3.c3, .slice t4.A3 t4.el.length t4.c3] (.bool true) (by kernel_rfl) (rC en_cantileverkit_Stmts rfl rfl (by kernel_rfl)) (ret_eq ((ih t3 (List.mem_of_getElem? ht3)).2 t4.el _ _ _ _ _ (et3.els.on hM.below) (et4.els.on hM.below) (by omega) (by omega)) (congrArg Value.bool h14)) fun a w hK hM => ?_
          refine sP hK 75 (.bool false) (by kernel_rfl) (by kernel_rfl) fun a hK => ?_
          refine sP hK 76 (.bool false) (by kernel_rfl) (by kernel_rfl) fun a hK => ?_
          refine rps ?_
          refine wp_cond_false (hK.get rfl) ?_
          refine wp_skip ?_
          refine rg3 (by kernel_rfl) ?_
          refine sM hK 17 5 (by kernel_rfl) (.inl rfl) rfl fun a hK => ?_
          refine sP hK 18 (.int .i64 (((i + 1) : Nat) : Int)) (by kernel_rfl) (run_addN (i := i) (j := 1) rfl rfl rfl (by omega)) fun a hK => ?_
          refine sM hK 5 18 (by kernel_rfl) (.inr rfl) rfl fun a hK => ?_
          refine rps ?_
          have hRn : (i + 1) ≤ l.length ∧ smsSame (l.drop (i + 1)) (m.drop (i + 1)) = smsSame l m := ⟨by omega, by have hs : t3.same t4 = true := (by rw [same_sm2, h8, h9, h10, h11, h12, h13, h14]; rfl); rw [← hR.2, smsSame_step ht3 ht4, hs, Bool.true_and]⟩
          have hmn : l.length - (i + 1) < l.length - i := by omega
          exact ⟨i + 1, hK.sub ⟨rfl, rfl, rfl, rfl, rfl, trivial⟩, (hM.drop 2), hRn, hmn⟩
         ·refine sR hK hM 74 #[.slice t3.A3 t3.el.length t3.c3, .slice t4.A3 t4.el.length t4.c3] (.bool false) (by kernel_rfl) (rC en_cantileverkit_Stmts rfl rfl (by kernel_rfl)) (ret_eq ((ih t3 (List.mem_of_getElem? ht3)).2 t4.el _ _ _ _ _ (et3.els.on hM.below) (et4.els.on hM.below) (by omega) (by omega)) (congrArg Value.bool h14)) fun a w hK hM => ?_
          refine sP hK 75 (.bool true) (by kernel_rfl) (by kernel_rfl) fun a hK => ?_
          refine sP hK 76 (.bool true) (by kernel_rfl) (by kernel_rfl) fun a hK => ?_
          refine rps ?_
          refine wp_cond_true (hK.get rfl) ?_
          refine wp_seq ?_
          refine rg1 (by kernel_rfl) ?_
          refine sP hK 4 (.bool false) (by kernel_rfl) (by kernel_rfl) fun a hK => ?_
          refine rps ?_
          refine wp_ret ?_
          exact ret_t hK rfl (u := (.bool false)) rfl (⟨by have hs : t3.same t4 = false := (by rw [same_sm2, h8, h9, h10, h11, h12, h13, h14]; rfl); unfold smsEq; rw [hne, ← hR.2, smsSame_step ht3 ht4, hs]; rfl, hM.below⟩)
        ·refine sR hK hM 66 #[.slice t3.A2 t3.th.length t3.c2, .slice t4.A2 t4.th.length t4.c2] (.bool false) (by kernel_rfl) (rC en_cantileverkit_Stmts rfl rfl (by kernel_rfl)) (ret_eq ((ih t3 (List.mem_of_getElem? ht3)).1 t4.th _ _ _ _ _ (et3.thn.on hM.below) (et4.thn.on hM.below) (by omega) (by omega)) (congrArg Value.bool h13)) fun a w hK hM => ?_
         refine sP hK 67 (.bool true) (by kernel_rfl) (by kernel_rfl) fun a hK => ?_
         refine sP hK 68 (.bool true) (by kernel_rfl) (by kernel_rfl) fun a hK => ?_
         refine sM hK 69 68 (by kernel_rfl) (.inl rfl) rfl fun a hK => ?_
         refine sN hK 70 (by kernel_rfl) fun a hK => ?_
         refine sN hK 71 (by kernel_rfl) fun a hK => ?_
         refine sN hK 72 (by kernel_rfl) fun a hK => ?_
         refine sN hK 73 (by kernel_rfl) fun a hK => ?_
         refine sN hK 74 (by kernel_rfl) fun a hK => ?_
         refine sN hK 75 (by kernel_rfl) fun a hK => ?_
         refine sP hK 76 (.bool true) (by kernel_rfl) (by kernel_rfl) fun a hK => ?_
         refine rps ?_
         refine wp_cond_true (hK.get rfl) ?_
         refine wp_seq ?_
         refine rg1 (by kernel_rfl) ?_
         refine sP hK 4 (.bool false) (by kernel_rfl) (by kernel_rfl) fun a hK => ?_
         refine rps ?_
         refine wp_ret ?_
         exact ret_t hK rfl (u := (.bool false)) rfl (⟨by have hs : t3.same t4 = false := (by rw [same_sm2, h8, h9, h10, h11, h12, h13]; rfl); unfold smsEq; rw [hne, ← hR.2, smsSame_step ht3 ht4, hs]; rfl, hM.below⟩)
       ·refine sR hK hM 58 #[.slice t3.A1 t3.es.length t3.c1, .slice t4.A1 t4.es.length t4.c1] (.bool false) (by kernel_rfl) (rC en_cantileverkit_Exprs rfl rfl (by kernel_rfl)) (ret_eq (kit_Exprs0 t3.es (fun x _ => kit_Expr x) t4.es _ _ _ _ _ (et3.exprs.on hM.below) (et4.exprs.on hM.below) (by omega) (by omega)) (congrArg Value.bool h12)) fun a w hK hM => ?_
        refine sP hK 59 (.bool true) (by kernel_rfl) (by kernel_rfl) fun a hK => ?_
        refine sP hK 60 (.bool true) (by kernel_rfl) (by kernel_rfl) fun a hK => ?_
        refine sM hK 61 60 (by kernel_rfl) (.inl rfl) rfl fun a hK => ?_
        refine sN hK 62 (by kernel_rfl) fun a hK => ?_
        refine sN hK 63 (by kernel_rfl) fun a hK => ?_
        refine sN hK 64 (by kernel_rfl) fun a hK => ?_
        refine sN hK 65 (by kernel_rfl) fun a hK => ?_
        refine sN hK 66 (by kernel_rfl) fun a hK => ?_
        refine sN hK 67 (by kernel_rfl) fun a hK => ?_
        refine sP hK 68 (.bool true) (by kernel_rfl) (by kernel_rfl) fun a hK => ?_
        refine sM hK 69 68 (by kernel_rfl) (.inl rfl) rfl fun a hK => ?_
        refine sN hK 70 (by kernel_rfl) fun a hK => ?_
        refine sN hK 71 (by kernel_rfl) fun a hK => ?_
        refine sN hK 72 (by kernel_rfl) fun a hK => ?_
        refine sN hK 73 (by kernel_rfl) fun a hK => ?_
        refine sN hK 74 (by kernel_rfl) fun a hK => ?_
        refine sN hK 75 (by kernel_rfl) fun a hK => ?_
        refine sP hK 76 (.bool true) (by kernel_rfl) (by kernel_rfl) fun a hK => ?_
        refine rps ?_
        refine wp_cond_true (hK.get rfl) ?_
        refine wp_seq ?_
        refine rg1 (by kernel_rfl) ?_
        refine sP hK 4 (.bool false) (by kernel_rfl) (by kernel_rfl) fun a hK => ?_
        refine rps ?_
        refine wp_ret ?_
        exact ret_t hK rfl (u := (.bool false)) rfl (⟨by have hs : t3.same t4 = false := (by rw [same_sm2, h8, h9, h10, h11, h12]; rfl); unfold smsEq; rw [hne, ← hR.2, smsSame_step ht3 ht4, hs]; rfl, hM.below⟩)
  ·refine sP hK 16 (.bool false) (by kernel_rfl) (oB (b := (decide ((((i : Nat) : Int) : Int) < ((l.length : Nat) : Int)))) (by kernel_rfl) (decide_eq_false h2)) fun a hK => ?_
   refine rps ?_
   refine wp_cond_false (hK.get rfl) ?_
   refine wp_exit (exit_then (exit_then (exit_here 0 ?_)))
   refine wp_seq ?_
   refine rg1 (by kernel_rfl) ?_
   refine sP hK 4 (.bool true) (by kernel_rfl) (by kernel_rfl) fun a hK => ?_
   refine rps ?_
   refine wp_ret ?_
   exact ret_t hK rfl (u := (.bool true)) rfl (⟨by unfold smsEq; rw [hne, ← hR.2, smsSame_end (by omega)]; rfl, hM.below⟩)
set_option maxRecDepth 100000 in
set_option maxHeartbeats 4000000 in
theorem ast_sameStmt0 (s : Sm) (h1 : ∀ (m : List Sm) (A : Option Addr) (c : Nat) (B : Option Addr) (d : Nat) (w0 : World), SmsAt w0 A (s.th) → SmsAt w0 B m → (s.th).length ≤ 9223372036854775807 → m.length ≤ 9223372036854775807 → Calls Tryz.prog 27 #[.slice A (s.th).length c, .slice B m.length d] w0 (Ret w0 (.bool (smsEq (s.th) m)))) (h2 : ∀ (m : List Sm) (A : Option Addr) (c : Nat) (B : Option Addr) (d : Nat) (w0 : World), SmsAt w0 A (s.el) → SmsAt w0 B m → (s.el).length ≤ 9223372036854775807 → m.length ≤ 9223372036854775807 → Calls Tryz.prog 27 #[.slice A (s.el).length c, .slice B m.length d] w0 (Ret w0 (.bool (smsEq (s.el) m)))) : ∀ (t : Sm) (w0 : World), SmAt w0 s → SmAt w0 t → Calls Tryz.prog 62 #[vS s, vS t] w0 (Ret w0 (.bool (s.same t))) := by
 intro t w0 hs ht
 have hsl := hs.len; have htl := ht.len
 refine calls_K (args := [vS s, vS t]) (n := 52) (env := [(0, vS s), (1, vS t)]) Tryz.func62 rfl rfl rfl ⟨rfl, rfl, trivial⟩ fun a w hK hM => ?_
 refine wp_seq ?_
 refine rg3 (by kernel_rfl) ?_
 refine sA hK hM 2 64 (cS s) (fun b => pA b 0) (by kernel_rfl) (by kernel_rfl) fun b1 a w hK hM => ?_
 refine sA hK hM 3 64 (cS t) (fun b => pA b 0) (by kernel_rfl) (by kernel_rfl) fun b2 a w hK hM => ?_
 refine sP hK 4 (.bool false) (by kernel_rfl) (by kernel_rfl) fun a hK => ?_
 refine rps ?_
 refine wp_seq ?_
 refine rg48 (by kernel_rfl) ?_
 refine sP hK 5 (pA b1 0) (by kernel_rfl) (by kernel_rfl) fun a hK => ?_
 refine sL hK 6 (.int .i64 s.kind) (by kernel_rfl) rfl rfl ((hM.row 1 rfl).cells 0 1) (by kernel_rfl) fun a hK => ?_
 refine sP hK 7 (pA b2 0) (by kernel_rfl) (by kernel_rfl) fun a hK => ?_
 refine sL hK 8 (.int .i64 t.kind) (by kernel_rfl) rfl rfl ((hM.row 0 rfl).cells 0 1) (by kernel_rfl) fun a hK => ?_
 by_cases h3 : (s.kind : Int) = t.kind
 ·refine sP hK 9 (.bool true) (by kernel_rfl) (oB (b := (decide ((s.kind : Int) = t.kind))) (by kernel_rfl) (decide_eq_true h3)) fun a hK => ?_
  refine sM hK 10 9 (by kernel_rfl) (.inl rfl) rfl fun a hK => ?_
  refine sP hK 11 (pA b1 1) (by kernel_rfl) (by kernel_rfl) fun a hK => ?_
  refine sL hK 12 (Str s.nm) (by kernel_rfl) rfl rfl ((hM.row 1 rfl).cells 1 1) (by kernel_rfl) fun a hK => ?_
  refine sP hK 13 (pA b2 1) (by kernel_rfl) (by kernel_rfl) fun a hK => ?_
  refine sL hK 14 (Str t.nm) (by kernel_rfl) rfl rfl ((hM.row 0 rfl).cells 1 1) (by kernel_rfl) fun a hK => ?_
  by_cases h4 : s.nm = t.nm
  ·refine sP hK 15 (.bool true) (by kernel_rfl) (oB (b := (decide (s.nm = t.nm))) (run_eqS rfl rfl rfl) (decide_eq_true h4)) fun a hK => ?_
   refine sP hK 16 (.bool true) (by kernel_rfl) (by kernel_rfl) fun a hK => ?_
   refine sM hK 17 16 (by kernel_rfl) (.inl rfl) rfl fun a hK => ?_
   refine sP hK 18 (pA b1 2) (by kernel_rfl) (by kernel_rfl) fun a hK => ?_
   refine sL hK 19 (Str s.loc) (by kernel_rfl) rfl rfl ((hM.row 1 rfl).cells 2 1) (by kernel_rfl) fun a hK => ?_
   refine sP hK 20 (pA b2 2) (by kernel_rfl) (by kernel_rfl) fun a hK => ?_
   refine sL hK 21 (Str t.loc) (by kernel_rfl) rfl rfl ((hM.row 0 rfl).cells 2 1) (by kernel_rfl) fun a hK => ?_
   by_cases h5 : s.loc = t.loc
   ·refine sP hK 22 (.bool true) (by kernel_rfl) (oB (b := (decide (s.loc = t.loc))) (run_eqS rfl rfl rfl) (decide_eq_true h5)) fun a hK => ?_
    refine sP hK 23 (.bool true) (by kernel_rfl) (by kernel_rfl) fun a hK => ?_
    refine sM hK 24 23 (by kernel_rfl) (.inl rfl) rfl fun a hK => ?_
    refine sP hK 25 (pA b1 3) (by kernel_rfl) (by kernel_rfl) fun a hK => ?_
    refine sL hK 26 (.int .i64 s.ord) (by kernel_rfl) rfl rfl ((hM.row 1 rfl).cells 3 1) (by kernel_rfl) fun a hK => ?_
    refine sP hK 27 (pA b2 3) (by kernel_rfl) (by kernel_rfl) fun a hK => ?_
    refine sL hK 28 (.int .i64 t.ord) (by kernel_rfl) rfl rfl ((hM.row 0 rfl).cells 3 1) (by kernel_rfl) fun a hK => ?_
    by_cases h6 : (s.ord : Int) = t.ord
    ·refine sP hK 29 (.bool true) (by kernel_rfl) (oB (b := (decide ((s.ord : Int) = t.ord))) (by kernel_rfl) (decide_eq_true h6)) fun a hK => ?_
     refine sP hK 30 (.bool true) (by kernel_rfl) (by kernel_rfl) fun a hK => ?_
     refine sM hK 31 30 (by kernel_rfl) (.inl rfl) rfl fun a hK => ?_
     refine sP hK 32 (pA b1 4) (by kernel_rfl) (by kernel_rfl) fun a hK => ?_
     refine sL hK 33 (.slice s.A1 s.es.length s.c1) (by kernel_rfl) rfl rfl ((hM.row 1 rfl).cells 4 1) (by kernel_rfl) fun a hK => ?_
     refine sP hK 34 (pA b2 4) (by kernel_rfl) (by kernel_rfl) fun a hK => ?_
     refine sL hK 35 (.slice t.A1 t.es.length t.c1) (by kernel_rfl) rfl rfl ((hM.row 0 rfl).cells 4 1) (by kernel_rfl) fun a hK => ?_
     rcases Bool.eq_false_or_eq_true (exsEq s.es t.es) with h7 | h7
     ·refine sR hK hM 36 #[.slice s.A1 s.es.length s.c1, .slice t.A1 t.es.length t.c1, .func (.func 9) #[] #[]] (.bool true) (by kernel_rfl) (rC en_api_Expr_ rfl rfl (by kernel_rfl)) (ret_eq (ast_eqEx s.es (fun x _ => ast_SameExpr x) t.es _ _ _ _ _ (hs.exprs.on hM.below) (ht.exprs.on hM.below) (by omega) (by omega)) (congrArg Value.bool h7)) fun a w hK hM => ?_
      refine sP hK 37 (.bool true) (by kernel_rfl) (by kernel_rfl) fun a hK => ?_
      refine sM hK 38 37 (by kernel_rfl) (.inl rfl) rfl fun a hK => ?_
      refine sP hK 39 (pA b1 5) (by kernel_rfl) (by kernel_rfl) fun a hK => ?_
      refine sL hK 40 (.slice s.A2 s.th.length s.c2) (by kernel_rfl) rfl rfl ((hM.row 1 rfl).cells 5 1) (by kernel_rfl) fun a hK => ?_
      refine sP hK 41 (pA b2 5) (by kernel_rfl) (by kernel_rfl) fun a hK => ?_
      refine sL hK 42 (.slice t.A2 t.th.length t.c2) (by kernel_rfl) rfl rfl ((hM.row 0 rfl).cells 5 1) (by kernel_rfl) fun a hK => ?_
      rcases Bool.eq_false_or_eq_true (smsEq s.th t.th) with h8 | h8
      ·refine sR hK hM 43 #[.slice s.A2 s.th.length s.c2, .slice t.A2 t.th.length t.c2] (.bool true) (by kernel_rfl) (rC en_ast_sameStmts rfl rfl (by kernel_rfl)) (ret_eq (h1 t.th _ _ _ _ _ (hs.thn.on hM.below) (ht.thn.on hM.below) (by omega) (by omega)) (congrArg Value.bool h8)) fun a w hK hM => ?_
       refine sP hK 44 (.bool true) (by kernel_rfl) (by kernel_rfl) fun a hK => ?_
       refine sM hK 45 44 (by kernel_rfl) (.inl rfl) rfl fun a hK => ?_
       refine sP hK 46 (pA b1 6) (by kernel_rfl) (by kernel_rfl) fun a hK => ?_
       refine sL hK 47 (.slice s.A3 s.el.length s.c3) (by kernel_rfl) rfl rfl ((hM.row 1 rfl).cells 6 1) (by kernel_rfl) fun a hK => ?_
       refine sP hK 48 (pA b2 6) (by kernel_rfl) (by kernel_rfl) fun a hK => ?_
       refine sL hK 49 (.slice t.A3 t.el.length t.c3) (by kernel_rfl) rfl rfl ((hM.row 0 rfl).cells 6 1) (by kernel_rfl) fun a hK => ?_
       rcases Bool.eq_false_or_eq_true (smsEq s.el t.el) with h9 | h9
       ·refine sR hK hM 50 #[.slice s.A3 s.el.length s.c3, .slice t.A3 t.el.length t.c3] (.bool true) (by kernel_rfl) (rC en_ast_sameStmts rfl rfl (by kernel_rfl)) (ret_eq (h2 t.el _ _ _ _ _ (hs.els.on hM.below) (ht.els.on hM.below) (by omega) (by omega)) (congrArg Value.bool h9)) fun a w hK hM => ?_
        refine sP hK 51 (.bool true) (by kernel_rfl) (by kernel_rfl) fun a hK => ?_
        refine sM hK 4 51 (by kernel_rfl) (.inr rfl) rfl fun a hK => ?_
        refine rps ?_
        refine wp_ret ?_
        exact ret_t hK rfl (u := (.bool true)) rfl (⟨by rw [same_sm, (decide_eq_true h3), (decide_eq_true h4), (decide_eq_true h5), (decide_eq_true h6), h7, h8, h9]; rfl, hM.below⟩)
       ·refine sR hK hM 50 #[.slice s.A3 s.el.length s.c3, .slice t.A3 t.el.length t.c3] (.bool false) (by kernel_rfl) (rC en_ast_sameStmts rfl rfl (by kernel_rfl)) (ret_eq (h2 t.el _ _ _ _ _ (hs.els.on hM.below) (ht.els.on hM.below) (by omega) (by omega)) (congrArg Value.bool h9)) fun a w hK hM => ?_
        refine sP hK 51 (.bool false) (by kernel_rfl) (by kernel_rfl) fun a hK => ?_
        refine sM hK 4 51 (by kernel_rfl) (.inr rfl) rfl fun a hK => ?_
        refine rps ?_
        refine wp_ret ?_
        exact ret_t hK rfl (u := (.bool false)) rfl (⟨by rw [same_sm, (decide_eq_true h3), (decide_eq_true h4), (decide_eq_true h5), (decide_eq_true h6), h7, h8, h9]; rfl, hM.below⟩)
      ·refine sR hK hM 43 #[.slice s.A2 s.th.length s.c2, .slice t.A2 t.th.length t.c2] (.bool false) (by kernel_rfl) (rC en_ast_sameStmts rfl rfl (by kernel_rfl)) (ret_eq (h1 t.th _ _ _ _ _ (hs.thn.on hM.below) (ht.thn.on hM.below) (by omega) (by omega)) (congrArg Value.bool h8)) fun a w hK hM => ?_
       refine sP hK 44 (.bool false) (by kernel_rfl) (by kernel_rfl) fun a hK => ?_
       refine sM hK 45 44 (by kernel_rfl) (.inl rfl) rfl fun a hK => ?_
       refine sN hK 46 (by kernel_rfl) fun a hK => ?_
       refine sN hK 47 (by kernel_rfl) fun a hK => ?_
       refine sN hK 48 (by kernel_rfl) fun a hK => ?_
       refine sN hK 49 (by kernel_rfl) fun a hK => ?_
       refine sN hK 50 (by kernel_rfl) fun a hK => ?_
       refine sP hK 51 (.bool false) (by kernel_rfl) (by kernel_rfl) fun a hK => ?_
       refine sM hK 4 51 (by kernel_rfl) (.inr rfl) rfl fun a hK => ?_
       refine rps ?_
       refine wp_ret ?_
       exact ret_t hK rfl (u := (.bool false)) rfl (⟨by rw [same_sm, (decide_eq_true h3), (decide_eq_true h4), (decide_eq_true h5), (decide_eq_true h6), h7, h8]; rfl, hM.below⟩)
     ·refine sR hK hM 36 #[.slice s.A1 s.es.length s.c1, .slice t.A1 t.es.length t.c1, .func (.func 9) #[] #[]] (.bool false) (by kernel_rfl) (rC en_api_Expr_ rfl rfl (by kernel_rfl)) (ret_eq (ast_eqEx s.es (fun x _ => ast_SameExpr x) t.es _ _ _ _ _ (hs.exprs.on hM.below) (ht.exprs.on hM.below) (by omega) (by omega)) (congrArg Value.bool h7)) fun a w hK hM => ?_
      refine sP hK 37 (.bool false) (by kernel_rfl) (by kernel_rfl) fun a hK => ?_
      refine sM hK 38 37 (by kernel_rfl) (.inl rfl) rfl fun a hK => ?_
      refine sN hK 39 (by kernel_rfl) fun a hK => ?_
      refine sN hK 40 (by kernel_rfl) fun a hK => ?_
      refine sN hK 41 (by kernel_rfl) fun a hK => ?_
      refine sN hK 42 (by kernel_rfl) fun a hK => ?_
      refine sN hK 43 (by kernel_rfl) fun a hK => ?_
      refine sP hK 44 (.bool false) (by kernel_rfl) (by kernel_rfl) fun a hK => ?_
      refine sM hK 45 44 (by kernel_rfl) (.inl rfl) rfl fun a hK => ?_
      refine sN hK 46 (by kernel_rfl) fun a hK => ?_
      refine sN hK 47 (by kernel_rfl) fun a hK => ?_
      refine sN hK 48 (by kernel_rfl) fun a hK => ?_
      refine sN hK 49 (by kernel_rfl) fun a hK => ?_
      refine sN hK 50 (by kernel_rfl) fun a hK => ?_
      refine sP hK 51 (.bool false) (by kernel_rfl) (by kernel_rfl) fun a hK => ?_
      refine sM hK 4 51 (by kernel_rfl) (.inr rfl) rfl fun a hK => ?_
      refine rps ?_
      refine wp_ret ?_
      exact ret_t hK rfl (u := (.bool false)) rfl (⟨by rw [same_sm, (decide_eq_true h3), (decide_eq_true h4), (decide_eq_true h5), (decide_eq_true h6), h7]; rfl, hM.below⟩)
    ·refine sP hK 29 (.bool false) (by kernel_rfl) (oB (b := (decide ((s.ord : Int) = t.ord))) (by kernel_rfl) (decide_eq_false h6)) fun a hK => ?_
     refine sP hK 30 (.bool false) (by kernel_rfl) (by kernel_rfl) fun a hK => ?_
     refine sM hK 31 30 (by kernel_rfl) (.inl rfl) rfl fun a hK => ?_
     refine sN hK 32 (by kernel_rfl) fun a hK => ?_
     refine sN hK 33 (by kernel_rfl) fun a hK => ?_
     refine sN hK 34 (by kernel_rfl) fun a hK => ?_
     refine sN hK 35 (by kernel_rfl) fun a hK => ?_
     refine sN hK 36 (by kernel_rfl) fun a hK => ?_
     refine sP hK 37 (.bool false) (by kernel_rfl) (by kernel_rfl) fun a hK => ?_
     refine sM hK 38 37 (by kernel_rfl) (.inl rfl) rfl fun a hK => ?_
     refine sN hK 39 (by kernel_rfl) fun a hK => ?_
     refine sN hK 40 (by kernel_rfl) fun a hK => ?_
     refine sN hK 41 (by kernel_rfl) fun a hK => ?_
     refine sN hK 42 (by kernel_rfl) fun a hK => ?_
     refine sN hK 43 (by kernel_rfl) fun a hK => ?_
     refine sP hK 44 (.bool false) (by kernel_rfl) (by kernel_rfl) fun a hK => ?_
     refine sM hK 45 44 (by kernel_rfl) (.inl rfl) rfl fun a hK => ?_
     refine sN hK 46 (by kernel_rfl) fun a hK => ?_
     refine sN hK 47 (by kernel_rfl) fun a hK => ?_
     refine sN hK 48 (by kernel_rfl) fun a hK => ?_
     refine sN hK 49 (by kernel_rfl) fun a hK => ?_
     refine sN hK 50 (by kernel_rfl) fun a hK => ?_
     refine sP hK 51 (.bool false) (by kernel_rfl) (by kernel_rfl) fun a hK => ?_
     refine sM hK 4 51 (by kernel_rfl) (.inr rfl) rfl fun a hK => ?_
     refine rps ?_
     refine wp_ret ?_
     exact ret_t hK rfl (u := (.bool false)) rfl (⟨by rw [same_sm, (decide_eq_true h3), (decide_eq_true h4), (decide_eq_true h5), (decide_eq_false h6)]; rfl, hM.below⟩)
   ·refine sP hK 22 (.bool false) (by kernel_rfl) (oB (b := (decide (s.loc = t.loc))) (run_eqS rfl rfl rfl) (decide_eq_false h5)) fun a hK => ?_
    refine sP hK 23 (.bool false) (by kernel_rfl) (by kernel_rfl) fun a hK => ?_
    refine sM hK 24 23 (by kernel_rfl) (.inl rfl) rfl fun a hK => ?_
    refine sN hK 25 (by kernel_rfl) fun a hK => ?_
    refine sN hK 26 (by kernel_rfl) fun a hK => ?_
    refine sN hK 27 (by kernel_rfl) fun a hK => ?_
    refine sN hK 28 (by kernel_rfl) fun a hK => ?_
    refine sN hK 29 (by kernel_rfl) fun a hK => ?_
    refine sP hK 30 (.bool false) (by kernel_rfl) (by kernel_rfl) fun a hK => ?_
    refine sM hK 31 30 (by kernel_rfl) (.inl rfl) rfl fun a hK => ?_
    refine sN hK 32 (by kernel_rfl) fun a hK => ?_
    refine sN hK 33 (by kernel_rfl) fun a hK => ?_
    refine sN hK 34 (by kernel_rfl) fun a hK => ?_
    refine sN hK 35 (by kernel_rfl) fun a hK => ?_
    refine sN hK 36 (by kernel_rfl) fun a hK => ?_
    refine sP hK 37 (.bool false) (by kernel_rfl) (by kernel_rfl) fun a hK => ?_
    refine sM hK 38 37 (by kernel_rfl) (.inl rfl) rfl fun a hK => ?_
    refine sN hK 39 (by kernel_rfl) fun a hK => ?_
    refine sN hK 40 (by kernel_rfl) fun a hK => ?_
    refine sN hK 41 (by kernel_rfl) fun a hK => ?_
    refine sN hK 42 (by kernel_rfl) fun a hK => ?_
    refine sN hK 43 (by kernel_rfl) fun a hK => ?_
    refine sP hK 44 (.bool false) (by kernel_rfl) (by kernel_rfl) fun a hK => ?_
    refine sM hK 45 44 (by kernel_rfl) (.inl rfl) rfl fun a hK => ?_
    refine sN hK 46 (by kernel_rfl) fun a hK => ?_
    refine sN hK 47 (by kernel_rfl) fun a hK => ?_
    refine sN hK 48 (by kernel_rfl) fun a hK => ?_
    refine sN hK 49 (by kernel_rfl) fun a hK => ?_
    refine sN hK 50 (by kernel_rfl) fun a hK => ?_
    refine sP hK 51 (.bool false) (by kernel_rfl) (by kernel_rfl) fun a hK => ?_
    refine sM hK 4 51 (by kernel_rfl) (.inr rfl) rfl fun a hK => ?_
    refine rps ?_
    refine wp_ret ?_
    exact ret_t hK rfl (u := (.bool false)) rfl (⟨by rw [same_sm, (decide_eq_true h3), (decide_eq_true h4), (decide_eq_false h5)]; rfl, hM.below⟩)
  ·refine sP hK 15 (.bool false) (by kernel_rfl) (oB (b := (decide (s.nm = t.nm))) (run_eqS rfl rfl rfl) (decide_eq_false h4)) fun a hK => ?_
   refine sP hK 16 (.bool false) (by kernel_rfl) (by kernel_rfl) fun a hK => ?_
   refine sM hK 17 16 (by kernel_rfl) (.inl rfl) rfl fun a hK => ?_
   refine sN hK 18 (by kernel_rfl) fun a hK => ?_
   refine sN hK 19 (by kernel_rfl) fun a hK => ?_
   refine sN hK 20 (by kernel_rfl) fun a hK => ?_
   refine sN hK 21 (by kernel_rfl) fun a hK => ?_
   refine sN hK 22 (by kernel_rfl) fun a hK => ?_
   refine sP hK 23 (.bool false) (by kernel_rfl) (by kernel_rfl) fun a hK => ?_
   refine sM hK 24 23 (by kernel_rfl) (.inl rfl) rfl fun a hK => ?_
   refine sN hK 25 (by kernel_rfl) fun a hK => ?_
   refine sN hK 26 (by kernel_rfl) fun a hK => ?_
   refine sN hK 27 (by kernel_rfl) fun a hK => ?_
   refine sN hK 28 (by kernel_rfl) fun a hK => ?_
   refine sN hK 29 (by kernel_rfl) fun a hK => ?_
   refine sP hK 30 (.bool false) (by kernel_rfl) (by kernel_rfl) fun a hK => ?_
   refine sM hK 31 30 (by kernel_rfl) (.inl rfl) rfl fun a hK => ?_
   refine sN hK 32 (by kernel_rfl) fun a hK => ?_
   refine sN hK 33 (by kernel_rfl) fun a hK => ?_
   refine sN hK 34 (by kernel_rfl) fun a hK => ?_
   refine sN hK 35 (by kernel_rfl) fun a hK => ?_
   refine sN hK 36 (by kernel_rfl) fun a hK => ?_
   refine sP hK 37 (.bool false) (by kernel_rfl) (by kernel_rfl) fun a hK => ?_
   refine sM hK 38 37 (by kernel_rfl) (.inl rfl) rfl fun a hK => ?_
   refine sN hK 39 (by kernel_rfl) fun a hK => ?_
   refine sN hK 40 (by kernel_rfl) fun a hK => ?_
   refine sN hK 41 (by kernel_rfl) fun a hK => ?_
   refine sN hK 42 (by kernel_rfl) fun a hK => ?_
   refine sN hK 43 (by kernel_rfl) fun a hK => ?_
   refine sP hK 44 (.bool false) (by kernel_rfl) (by kernel_rfl) fun a hK => ?_
   refine sM hK 45 44 (by kernel_rfl) (.inl rfl) rfl fun a hK => ?_
   refine sN hK 46 (by kernel_rfl) fun a hK => ?_
   refine sN hK 47 (by kernel_rfl) fun a hK => ?_
   refine sN hK 48 (by kernel_rfl) fun a hK => ?_
   refine sN hK 49 (by kernel_rfl) fun a hK => ?_
   refine sN hK 50 (by kernel_rfl) fun a hK => ?_
   refine sP hK 51 (.bool false) (by kernel_rfl) (by kernel_rfl) fun a hK => ?_
   refine sM hK 4 51 (by kernel_rfl) (.inr rfl) rfl fun a hK => ?_
   refine rps ?_
   refine wp_ret ?_
   exact ret_t hK rfl (u := (.bool false)) rfl (⟨by rw [same_sm, (decide_eq_true h3), (decide_eq_false h4)]; rfl, hM.below⟩)
 ·refine sP hK 9 (.bool false) (by kernel_rfl) (oB (b := (decide ((s.kind : Int) = t.kind))) (by kernel_rfl) (decide_eq_false h3)) fun a hK => ?_
  refine sM hK 10 9 (by kernel_rfl) (.inl rfl) rfl fun a hK => ?_
  refine sN hK 11 (by kernel_rfl) fun a hK => ?_
  refine sN hK 12 (by kernel_rfl) fun a hK => ?_
  refine sN hK 13 (by kernel_rfl) fun a hK => ?_
  refine sN hK 14 (by kernel_rfl) fun a hK => ?_
  refine sN hK 15 (by kernel_rfl) fun a hK => ?_
  refine sP hK 16 (.bool false) (by kernel_rfl) (by kernel_rfl) fun a hK => ?_
  refine sM hK 17 16 (by kernel_rfl) (.inl rfl) rfl fun a hK => ?_
  refine sN hK 18 (by kernel_rfl) fun a hK => ?_
  refine sN hK 19 (by kernel_rfl) fun a hK => ?_
  refine sN hK 20 (by kernel_rfl) fun a hK => ?_
  refine sN hK 21 (by kernel_rfl) fun a hK => ?_
  refine sN hK 22 (by kernel_rfl) fun a hK => ?_
  refine sP hK 23 (.bool false) (by kernel_rfl) (by kernel_rfl) fun a hK => ?_
  refine sM hK 24 23 (by kernel_rfl) (.inl rfl) rfl fun a hK => ?_
  refine sN hK 25 (by kernel_rfl) fun a hK => ?_
  refine sN hK 26 (by kernel_rfl) fun a hK => ?_
  refine sN hK 27 (by kernel_rfl) fun a hK => ?_
  refine sN hK 28 (by kernel_rfl) fun a hK => ?_
  refine sN hK 29 (by kernel_rfl) fun a hK => ?_
  refine sP hK 30 (.bool false) (by kernel_rfl) (by kernel_rfl) fun a hK => ?_
  refine sM hK 31 30 (by kernel_rfl) (.inl rfl) rfl fun a hK => ?_
  refine sN hK 32 (by kernel_rfl) fun a hK => ?_
  refine sN hK 33 (by kernel_rfl) fun a hK => ?_
  refine sN hK 34 (by kernel_rfl) fun a hK => ?_
  refine sN hK 35 (by kernel_rfl) fun a hK => ?_
  refine sN hK 36 (by kernel_rfl) fun a hK => ?_
  refine sP hK 37 (.bool false) (by kernel_rfl) (by kernel_rfl) fun a hK => ?_
  refine sM hK 38 37 (by kernel_rfl) (.inl rfl) rfl fun a hK => ?_
  refine sN hK 39 (by kernel_rfl) fun a hK => ?_
  refine sN hK 40 (by kernel_rfl) fun a hK => ?_
  refine sN hK 41 (by kernel_rfl) fun a hK => ?_
  refine sN hK 42 (by kernel_rfl) fun a hK => ?_
  refine sN hK 43 (by kernel_rfl) fun a hK => ?_
  refine sP hK 44 (.bool false) (by kernel_rfl) (by kernel_rfl) fun a hK => ?_
  refine sM hK 45 44 (by kernel_rfl) (.inl rfl) rfl fun a hK => ?_
  refine sN hK 46 (by kernel_rfl) fun a hK => ?_
  refine sN hK 47 (by kernel_rfl) fun a hK => ?_
  refine sN hK 48 (by kernel_rfl) fun a hK => ?_
  refine sN hK 49 (by kernel_rfl) fun a hK => ?_
  refine sN hK 50 (by kernel_rfl) fun a hK => ?_
  refine sP hK 51 (.bool false) (by kernel_rfl) (by kernel_rfl) fun a hK => ?_
  refine sM hK 4 51 (by kernel_rfl) (.inr rfl) rfl fun a hK => ?_
  refine rps ?_
  refine wp_ret ?_
  exact ret_t hK rfl (u := (.bool false)) rfl (⟨by rw [same_sm, (decide_eq_false h3)]; rfl, hM.below⟩)
set_option maxRecDepth 100000 in
set_option maxHeartbeats 4000000 in
theorem ast_eqSm (l : List Sm) (ih : ∀ s ∈ l, ∀ (t : Sm) (w0 : World), SmAt w0 s → SmAt w0 t → Calls Tryz.prog 62 #[vS s, vS t] w0 (Ret w0 (.bool (s.same t)))) : ∀ (m : List Sm) (A : Option Addr) (c : Nat) (B : Option Addr) (d : Nat) (w0 : World), SmsAt w0 A l → SmsAt w0 B m → l.length ≤ 9223372036854775807 → m.length ≤ 9223372036854775807 → Calls Tryz.prog 61 #[.slice A l.length c, .slice B m.length d, .func (.func 62) #[] #[]] w0 (Ret w0 (.bool (smsEq l m))) := by
 intro m A c B d w0 hl hm hln hmn
 refine calls_K (args := [.slice A l.length c, .slice B m.length d, .func (.func 62) #[] #[]]) (n := 32) (env := [(0, .slice A l.length c), (1, .slice B m.length d), (2, .func (.func 62) #[] #[])]) Tryz.func61 rfl rfl rfl ⟨rfl, rfl, rfl, trivial⟩ fun a w hK hM => ?_
 refine wp_seq ?_
 refine rg1 (by kernel_rfl) ?_
 refine sP hK 6 (.bool false) (by kernel_rfl) (by kernel_rfl) fun a hK => ?_
 refine rps ?_
 refine wp_seq ?_
 refine wp_seq ?_
 refine rg5 (by kernel_rfl) ?_
 refine sM hK 10 0 (by kernel_rfl) (.inl rfl) rfl fun a hK => ?_
 refine sP hK 11 (.int .i64 ((l.length : Nat) : Int)) (by kernel_rfl) (by kernel_rfl) fun a hK => ?_
 refine sM hK 12 1 (by kernel_rfl) (.inl rfl) rfl fun a hK => ?_
 refine sP hK 13 (.int .i64 ((m.length : Nat) : Int)) (by kernel_rfl) (by kernel_rfl) fun a hK => ?_
 rcases Bool.eq_false_or_eq_true (!(decide ((((l.length : Nat) : Int) : Int) = ((m.length : Nat) : Int)))) with h1 | h1
 ·refine sP hK 14 (.bool true) (by kernel_rfl) (oB (b := (!(decide ((((l.length : Nat) : Int) : Int) = ((m.length : Nat) : Int))))) (by kernel_rfl) h1) fun a hK => ?_
  refine rps ?_
  refine wp_cond_true (hK.get rfl) ?_
  refine wp_seq ?_
  refine rg1 (by kernel_rfl) ?_
  refine sP hK 6 (.bool false) (by kernel_rfl) (by kernel_rfl) fun a hK => ?_
  refine rps ?_
  refine wp_ret ?_
  exact ret_t hK rfl (u := (.bool false)) rfl (⟨by unfold smsEq neI; rw [h1]; rfl, hM.below⟩)
 ·refine sP hK 14 (.bool false) (by kernel_rfl) (oB (b := (!(decide ((((l.length : Nat) : Int) : Int) = ((m.length : Nat) : Int))))) (by kernel_rfl) h1) fun a hK => ?_
  refine rps ?_
  refine wp_cond_false (hK.get rfl) ?_
  refine wp_skip ?_
  refine wp_seq ?_
  refine wp_seq ?_
  have hne : neI ((l.length : Nat) : Int) ((m.length : Nat) : Int) = false := by unfold neI; rw [h1]
  have hlen : l.length = m.length := by have q := h1; simp at q; omega
  refine rg3 (by kernel_rfl) ?_
  refine sM hK 15 0 (by kernel_rfl) (.inl rfl) rfl fun a hK => ?_
  refine sP hK 16 (.int .i64 ((l.length : Nat) : Int)) (by kernel_rfl) (by kernel_rfl) fun a hK => ?_
  refine sP hK 17 (.int .i64 0) (by kernel_rfl) (by kernel_rfl) fun a hK => ?_
  refine rps ?_
  refine wp_block ?_
  refine wLX (fun x : Nat => [(16, .int .i64 ((l.length : Nat) : Int)), (15, .slice A l.length c), (14, .bool false), (6, .bool false), (0, .slice A l.length c), (1, .slice B m.length d), (2, .func (.func 62) #[] #[]), (17, vN x)]) (fun x : Nat => []) (fun x : Nat => x ≤ l.length ∧ smsSame (l.drop x) (m.drop x) = smsSame l m) (fun x : Nat => l.length - x) 0 (hK.sub ⟨rfl, rfl, rfl, rfl, rfl, rfl, rfl, rfl, trivial⟩) hM ⟨Nat.zero_le _, rfl⟩ ?_
  rintro i a w hK hM hR
  replace hK : Knows a 32 [(16, .int .i64 ((l.length : Nat) : Int)), (15, .slice A l.length c), (14, .bool false), (6, .bool false), (0, .slice A l.length c), (1, .slice B m.length d), (2, .func (.func 62) #[] #[]), (17, vN i)] := hK
  replace hM : Mem w0 w [] := hM
  replace hR : i ≤ l.length ∧ smsSame (l.drop i) (m.drop i) = smsSame l m := hR
  refine wp_seq ?_
  refine rg1 (by kernel_rfl) ?_
  by_cases h2 : (((i : Nat) : Int) : Int) < ((l.length : Nat) : Int)
  ·refine sP hK 18 (.bool true) (by kernel_rfl) (oB (b := (decide ((((i : Nat) : Int) : Int) < ((l.length : Nat) : Int)))) (by kernel_rfl) (decide_eq_true h2)) fun a hK => ?_
   refine rps ?_
   refine wp_seq ?_
   refine wp_cond_true (hK.get rfl) ?_
   refine wp_skip ?_
   refine wp_seq ?_
   refine wp_block ?_
   refine wp_seq ?_
   refine rg6 (by kernel_rfl) ?_
   refine sM hK 19 17 (by kernel_rfl) (.inl rfl) rfl fun a hK => ?_
   obtain ⟨t3, ht3⟩ : ∃ t, l[(i : Nat)]? = some t := ⟨_, List.getElem?_eq_getElem (by omega)⟩
   obtain ⟨⟨at3, At3, ct3⟩, et3⟩ := hl _ _ ht3; have nt3 := et3.len
   refine sP hK 20 (.pointer (some (at3.add (i * 7)))) (by kernel_rfl) (rX (k := i) (s := 7) rfl rfl At3 rfl Tryz.underlying38 (by kernel_rfl) (by omega)) fun a hK => ?_
   refine sL hK 21 (vS t3) (by kernel_rfl) rfl rfl ((ct3.on hM.below)) (by kernel_rfl) fun a hK => ?_
   refine sA hK hM 8 64 [.int .i64 0, Str [], Str [], .int .i64 0, .slice none 0 0, .slice none 0 0, .slice none 0 0] (fun b => pA b 0) (by kernel_rfl) (by kernel_rfl) fun b4 a w hK hM => ?_
   refine sM hK 7 19 (by kernel_rfl) (.inr rfl) rfl fun a hK => ?_
   refine sS hK hM 0 (cS t3) (by kernel_rfl) rfl rfl rfl rfl (by kernel_rfl) fun w hM => ?_
   replace hM := hM.to [.row b4 64 (cS t3)] (by kernel_rfl)
   refine rps ?_
   refine wp_seq ?_
   refine rg6 (by kernel_rfl) ?_
   refine sM hK 22 1 (by kernel_rfl) (.inl rfl) rfl fun a hK => ?_
   refine sM hK 23 7 (by kernel_rfl) (.inl rfl) rfl fun a hK => ?_
   obtain ⟨t5, ht5⟩ : ∃ t, m[(i : Nat)]? = some t := ⟨_, List.getElem?_eq_getElem (by omega)⟩
   obtain ⟨⟨at5, At5, ct5⟩, et5⟩ := hm _ _ ht5; have nt5 := et5.len
   refine sP hK 24 (.pointer (some (at5.add (i * 7)))) (by kernel_rfl) (rX (k := i) (s := 7) rfl rfl At5 rfl Tryz.underlying38 (by kernel_rfl) (by omega)) fun a hK => ?_
   refine sL hK 25 (vS t5) (by kernel_rfl) rfl rfl ((ct5.on hM.below)) (by kernel_rfl) fun a hK => ?_
   refine sA hK hM 9 64 [.int .i64 0, Str [], Str [], .int .i64 0, .slice none 0 0, .slice none 0 0, .slice none 0 0] (fun b => pA b 0) (by kernel_rfl) (by kernel_rfl) fun b6 a w hK hM => ?_
   refine sS hK hM 0 (cS t5) (by kernel_rfl) rfl rfl rfl rfl (by kernel_rfl) fun w hM => ?_
   replace hM := hM.to [.row b6 64 (cS t5), .row b4 64 (cS t3)] (by kernel_rfl)
   refine rps ?_
   refine wp_seq ?_
   refine rg5 (by kernel_rfl) ?_
   refine sM hK 26 2 (by kernel_rfl) (.inl rfl) rfl fun a hK => ?_
   refine sL hK 27 (vS t3) (by kernel_rfl) rfl rfl ((hM.row 1 rfl).cells 0 7) (by kernel_rfl) fun a hK => ?_
   refine sL hK 28 (vS t5) (by kernel_rfl) rfl rfl ((hM.row 0 rfl).cells 0 7) (by kernel_rfl) fun a hK => ?_
   rcases Bool.eq_false_or_eq_true (t3.same t5) with h7 | h7
   ·refine sR hK hM 29 #[vS t3, vS t5] (.bool true) (by kernel_rfl) (rC en_ast_sameStmt rfl rfl (by kernel_rfl)) (ret_eq (ih t3 (List.mem_of_getElem? ht3) t5 _ (et3.on hM.below) (et5.on hM.below)) (congrArg Value.bool h7)) fun a w hK hM => ?_
    refine sP hK 30 (.bool false) (by kernel_rfl) (by kernel_rfl) fun a hK => ?_
    refine rps ?_
    refine wp_cond_false (hK.get rfl) ?_
    refine wp_skip ?_
    refine rg2 (by kernel_rfl) ?_
    refine sP hK 31 (.int .i64 (((i + 1) : Nat) : Int)) (by kernel_rfl) (run_addN (i := i) (j := 1) rfl rfl rfl (by omega)) fun a hK => ?_
    refine sM hK 17 31 (by kernel_rfl) (.inl rfl) rfl fun a hK => ?_
    refine rps ?_
    have hRn : (i + 1) ≤ l.length ∧ smsSame (l.drop (i + 1)) (m.drop (i + 1)) = smsSame l m := ⟨by omega, by rw [← hR.2, smsSame_step ht3 ht5, h7, Bool.true_and]⟩
    have hmn : l.length - (i + 1) < l.length - i := by omega
    exact ⟨i + 1, hK.sub ⟨rfl, rfl, rfl, rfl, rfl, rfl, rfl, rfl, trivial⟩, (hM.drop 2), hRn, hmn⟩
   ·refine sR hK hM 29 #[vS t3, vS t5] (.bool false) (by kernel_rfl) (rC en_ast_sameStmt rfl rfl (by kernel_rfl)) (ret_eq (ih t3 (List.mem_of_getElem? ht3) t5 _ (et3.on hM.below) (et5.on hM.below)) (congrArg Value.bool h7)) fun a w hK hM => ?_
    refine sP hK 30 (.bool true) (by kernel_rfl) (by kernel_rfl) fun a hK => ?_
    refine rps ?_
    refine wp_cond_true (hK.get rfl) ?_
    refine wp_seq ?_
    refine rg1 (by kernel_rfl) ?_
    refine sP hK 6 (.bool false) (by kernel_rfl) (by kernel_rfl) fun a hK => ?_
    refine rps ?_
    refine wp_ret ?_
    exact ret_t hK rfl (u := (.bool false)) rfl (⟨by unfold smsEq; rw [hne, ← hR.2, smsSame_step ht3 ht5, h7]; rfl, hM.below⟩)
  ·refine sP hK 18 (.bool false) (by kernel_rfl) (oB (b := (decide ((((i : Nat) : Int) : Int) < ((l.length : Nat) : Int)))) (by kernel_rfl) (decide_eq_false h2)) fun a hK => ?_
   refine rps ?_
   refine wp_seq ?_
   refine wp_cond_false (hK.get rfl) ?_
   refine wp_exit (exit_then (exit_then (exit_here 0 ?_)))
   refine wp_seq ?_
   refine rg1 (by kernel_rfl) ?_
   refine sP hK 6 (.bool true) (by kernel_rfl) (by kernel_rfl) fun a hK => ?_
   refine rps ?_
   refine wp_ret ?_
   exact ret_t hK rfl (u := (.bool true)) rfl (⟨by unfold smsEq; rw [hne, ← hR.2, smsSame_end (by omega)]; rfl, hM.below⟩)
set_option maxRecDepth 100000 in
set_option maxHeartbeats 4000000 in
theorem ast_sameStmts (l : List Sm) : ∀ (m : List Sm) (A : Option Addr) (c : Nat) (B : Option Addr) (d : Nat) (w0 : World), SmsAt w0 A l → SmsAt w0 B m → l.length ≤ 9223372036854775807 → m.length ≤ 9223372036854775807 → Calls Tryz.prog 27 #[.slice A l.length c, .slice B m.length d] w0 (Ret w0 (.bool (smsEq l m))) := by
 induction l using sms_rec
 rename_i l ih
 intro m A c B d w0 hl hm hln hmn
 refine calls_K (args := [.slice A l.length c, .slice B m.length d]) (n := 8) (env := [(0, .slice A l.length c), (1, .slice B m.length d)]) Tryz.func27 rfl rfl rfl ⟨rfl, rfl, trivial⟩ fun a w hK hM => ?_
 refine wp_seq ?_
 refine rg1 (by kernel_rfl) ?_
 refine sP hK 4 (.bool false) (by kernel_rfl) (by kernel_rfl) fun a hK => ?_
 refine rps ?_
 refine wp_seq ?_
 refine rg4 (by kernel_rfl) ?_
 refine sM hK 5 0 (by kernel_rfl) (.inl rfl) rfl fun a hK => ?_
 refine sM hK 6 1 (by kernel_rfl) (.inl rfl) rfl fun a hK => ?_
 rcases Bool.eq_false_or_eq_true (smsEq l m) with h1 | h1
 ·refine sR hK hM 7 #[.slice A l.length c, .slice B m.length d, .func (.func 62) #[] #[]] (.bool true) (by kernel_rfl) (rC en_eq_Stmt rfl rfl (by kernel_rfl)) (ret_eq (ast_eqSm l (fun s hs => ast_sameStmt0 s (ih s hs).1 (ih s hs).2) m _ _ _ _ _ (hl.on hM.below) (hm.on hM.below) (by omega) (by omega)) (congrArg Value.bool h1)) fun a w hK hM => ?_
  refine sM hK 4 7 (by kernel_rfl) (.inr rfl) rfl fun a hK => ?_
  refine rps ?_
  refine wp_ret ?_
  exact ret_t hK rfl (u := (.bool true)) rfl (⟨by rw [h1], hM.below⟩)
 ·refine sR hK hM 7 #[.slice A l.length c, .slice B m.length d, .func (.func 62) #[] #[]] (.bool false) (by kernel_rfl) (rC en_eq_Stmt rfl rfl (by kernel_rfl)) (ret_eq (ast_eqSm l (fun s hs => ast_sameStmt0 s (ih s hs).1 (ih s hs).2) m _ _ _ _ _ (hl.on hM.below) (hm.on hM.below) (by omega) (by omega)) (congrArg Value.bool h1)) fun a w hK hM => ?_
  refine sM hK 4 7 (by kernel_rfl) (.inr rfl) rfl fun a hK => ?_
  refine rps ?_
  refine wp_ret ?_
  exact ret_t hK rfl (u := (.bool false)) rfl (⟨by rw [h1], hM.below⟩)
end Go.Proofs.YtiigncmpbkfhmaaGreatDoor
namespace Go.Proofs.YtiigncmpbkfhmaaGreatDoor
open Go Go.RowKit
section
variable {o : Oper} {ρ : Operand → Value} {w : World}
theorem run_neqDcl {x y : Operand} {n n' : Int} {l l' : List UInt8} {p p' : Bool} {u : TypeId} (hop : o.op = .binOp .neq 48 x y u) (hx : ρ x = .agg #[Str l, .bool p, .int .i64 n]) (hy : ρ y = .agg #[Str l', .bool p', .int .i64 n']) : (execOp ρ o).run Tryz.prog w = .ok (.value (.bool (!(decide (l = l') && decide (p = p') && decide (n = n'))))) w := by
 by_cases h1 : l = l'
 ·by_cases h2 : p = p'
  ·by_cases h3 : n = n' <;> simp [execOp, hop, hx, hy, go_sem, Str, h1, h2, h3]
  ·simp [execOp, hop, hx, hy, go_sem, Str, h1, h2]
 ·simp [execOp, hop, hx, hy, go_sem, Str, h1]
end
def dcSame (d e : Dc) : Bool := decide (d.nm = e.nm) && decide (d.plain = e.plain) && decide (d.val = e.val)
def dcsSame : List Dc → List Dc → Bool
 | x :: r, y :: s => dcSame x y && dcsSame r s
 | _, _ => true
def dcsEq (l m : List Dc) : Bool := !(neI ((l.length : Nat) : Int) ((m.length : Nat) : Int)) && dcsSame l m
theorem dcsSame_step {l m : List Dc} {i : Nat} {x y : Dc} (h : l[i]? = some x) (h2 : m[i]? = some y) : dcsSame (l.drop i) (m.drop i) = (dcSame x y && dcsSame (l.drop (i + 1)) (m.drop (i + 1))) := by
 obtain ⟨hi, rfl⟩ := List.getElem?_eq_some_iff.1 h
 obtain ⟨hj, rfl⟩ := List.getElem?_eq_some_iff.1 h2
 rw [List.drop_eq_getElem_cons hi, List.drop_eq_getElem_cons hj, dcsSame]
theorem dcsSame_end {l m : List Dc} {i : Nat} (h : l.length ≤ i) : dcsSame (l.drop i) (m.drop i) = true := by
 rw [List.drop_of_length_le h]; unfold dcsSame; rfl
def thsSame : List Th → List Th → Bool
 | x :: r, y :: s => smsEq x.l y.l && thsSame r s
 | _, _ => true
def thsEq (l m : List Th) : Bool := !(neI ((l.length : Nat) : Int) ((m.length : Nat) : Int)) && thsSame l m
theorem thsSame_step {l m : List Th} {i : Nat} {x y : Th} (h : l[i]? = some x) (h2 : m[i]? = some y) : thsSame (l.drop i) (m.drop i) = (smsEq x.l y.l && thsSame (l.drop (i + 1)) (m.drop (i + 1))) := by
 obtain ⟨hi, rfl⟩ := List.getElem?_eq_some_iff.1 h
 obtain ⟨hj, rfl⟩ := List.getElem?_eq_some_iff.1 h2
 rw [List.drop_eq_getElem_cons hi, List.drop_eq_getElem_cons hj, thsSame]
theorem thsSame_end {l m : List Th} {i : Nat} (h : l.length ≤ i) : thsSame (l.drop i) (m.drop i) = true := by
 rw [List.drop_of_length_le h]; unfold thsSame; rfl
def pgSame (p q : Pg) : Bool := dcsEq p.ds q.ds && thsEq p.ts q.ts
def DcsAt (w : World) (A : Option Addr) (l : List Dc) : Prop := ∀ (k : Nat) (d : Dc), l[k]? = some d → (∃ a, A = some a ∧ CellsAt w (a.add (k * 3)) (cD d)) ∧ d.nm.length ≤ 9223372036854775807
def ThsAt (w : World) (A : Option Addr) (l : List Th) : Prop := ∀ (k : Nat) (t : Th), l[k]? = some t → (∃ a, A = some a ∧ CellsAt w (a.add (k * 1)) (cT t)) ∧ SmsAt w t.A t.l ∧ t.l.length ≤ 9223372036854775807
theorem en_eq_Decl : Enters Tryz.prog 25 := enters_of Tryz.func25 (by kernel_rfl) rfl
theorem en_eq_Thread : Enters Tryz.prog 26 := enters_of Tryz.func26 (by kernel_rfl) rfl
theorem en_ast_Same : Enters Tryz.prog 7 := enters_of Tryz.func7 (by kernel_rfl) rfl
theorem en_cantileverkit_Program : Enters Tryz.prog 11 := enters_of Tryz.func11 (by kernel_rfl) rfl
set_option maxRecDepth 100000 in
set_option maxHeartbeats 4000000 in
theorem ast_eqDc (l : List Dc) : ∀ (m : List Dc) (A : Option Addr) (c : Nat) (B : Option Addr) (d : Nat) (w0 : World), DcsAt w0 A l → DcsAt w0 B m → l.length ≤ 9223372036854775807 → m.length ≤ 9223372036854775807 → Calls Tryz.prog 25 #[.slice A l.length c, .slice B m.length d] w0 (Ret w0 (.bool (dcsEq l m))) := by
 intro m A c B d w0 hl hm hln hmn
 refine calls_K (args := [.slice A l.length c, .slice B m.length d]) (n := 26) (env := [(0, .slice A l.length c), (1, .slice B m.length d)]) Tryz.func25 rfl rfl rfl ⟨rfl, rfl, trivial⟩ fun a w hK hM => ?_
 refine wp_seq ?_
 refine rg1 (by kernel_rfl) ?_
 refine sP hK 4 (.bool false) (by kernel_rfl) (by kernel_rfl) fun a hK => ?_
 refine rps ?_
 refine wp_seq ?_
 refine wp_seq ?_
 refine rg5 (by kernel_rfl) ?_
 refine sM hK 6 0 (by kernel_rfl) (.inl rfl) rfl fun a hK => ?_
 refine sP hK 7 (.int .i64 ((l.length : Nat) : Int)) (by kernel_rfl) (by kernel_rfl) fun a hK => ?_
 refine sM hK 8 1 (by kernel_rfl) (.inl rfl) rfl fun a hK => ?_
 refine sP hK 9 (.int .i64 ((m.length : Nat) : Int)) (by kernel_rfl) (by kernel_rfl) fun a hK => ?_
 rcases Bool.eq_false_or_eq_true (!(decide ((((l.length : Nat) : Int) : Int) = ((m.length : Nat) : Int)))) with h1 | h1
 ·refine sP hK 10 (.bool true) (by kernel_rfl) (oB (b := (!(decide ((((l.length : Nat) : Int) : Int) = ((m.length : Nat) : Int))))) (by kernel_rfl) h1) fun a hK => ?_
  refine rps ?_
  refine wp_cond_true (hK.get rfl) ?_
  refine wp_seq ?_
  refine rg1 (by kernel_rfl) ?_
  refine sP hK 4 (.bool false) (by kernel_rfl) (by kernel_rfl) fun a hK => ?_
  refine rps ?_
  refine wp_ret ?_
  exact ret_t hK rfl (u := (.bool false)) rfl (⟨by unfold dcsEq neI; rw [h1]; rfl, hM.below⟩)
 ·refine sP hK 10 (.bool false) (by kernel_rfl) (oB (b := (!(decide ((((l.length : Nat) : Int) : Int) = ((m.length : Nat) : Int))))) (by kernel_rfl) h1) fun a hK => ?_
  refine rps ?_
  refine wp_cond_false (hK.get rfl) ?_
  refine wp_skip ?_
  refine wp_seq ?_
  refine wp_seq ?_
  have hne : neI ((l.length : Nat) : Int) ((m.length : Nat) : Int) = false := by unfold neI; rw [h1]
  have hlen : l.length = m.length := by have q := h1; simp at q; omega
  refine rg3 (by kernel_rfl) ?_
  refine sM hK 11 0 (by kernel_rfl) (.inl rfl) rfl fun a hK => ?_
  refine sP hK 12 (.int .i64 ((l.length : Nat) : Int)) (by kernel_rfl) (by kernel_rfl) fun a hK => ?_
  refine sP hK 13 (.int .i64 0) (by kernel_rfl) (by kernel_rfl) fun a hK => ?_
  refine rps ?_
  refine wp_block ?_
  refine wLX (fun x : Nat => [(12, .int .i64 ((l.length : Nat) : Int)), (10, .bool false), (4, .bool false), (0, .slice A l.length c), (1, .slice B m.length d), (13, vN x)]) (fun x : Nat => []) (fun x : Nat => x ≤ l.length ∧ dcsSame (l.drop x) (m.drop x) = dcsSame l m) (fun x : Nat => l.length - x) 0 (hK.sub ⟨rfl, rfl, rfl, rfl, rfl, rfl, trivial⟩) hM ⟨Nat.zero_le _, rfl⟩ ?_
  rintro i a w hK hM hR
  replace hK : Knows a 26 [(12, .int .i64 ((l.length : Nat) : Int)), (10, .bool false), (4, .bool false), (0, .slice A l.length c), (1, .slice B m.length d), (13, vN i)] := hK
  replace hM : Mem w0 w [] := hM
  replace hR : i ≤ l.length ∧ dcsSame (l.drop i) (m.drop i) = dcsSame l m := hR
  refine wp_seq ?_
  refine rg1 (by kernel_rfl) ?_
  by_cases h2 : (((i : Nat) : Int) : Int) < ((l.length : Nat) : Int)
  ·refine sP hK 14 (.bool true) (by kernel_rfl) (oB (b := (decide ((((i : Nat) : Int) : Int) < ((l.length : Nat) : Int)))) (by kernel_rfl) (decide_eq_true h2)) fun a hK => ?_
   refine rps ?_
   refine wp_seq ?_
   refine wp_cond_true (hK.get rfl) ?_
   refine wp_skip ?_
   refine wp_seq ?_
   refine wp_block ?_
   refine wp_seq ?_
   refine rg2 (by kernel_rfl) ?_
   refine sM hK 15 13 (by kernel_rfl) (.inl rfl) rfl fun a hK => ?_
   refine sM hK 5 15 (by kernel_rfl) (.inr rfl) rfl fun a hK => ?_
   refine rps ?_
   refine wp_seq ?_
   obtain ⟨t3, ht3⟩ : ∃ t, l[(i : Nat)]? = some t := ⟨_, List.getElem?_eq_getElem (by omega)⟩
   obtain ⟨⟨at3, At3, ct3⟩, et3⟩ := hl _ _ ht3; have nt3 := et3
   obtain ⟨t4, ht4⟩ : ∃ t, m[(i : Nat)]? = some t := ⟨_, List.getElem?_eq_getElem (by omega)⟩
   obtain ⟨⟨at4, At4, ct4⟩, et4⟩ := hm _ _ ht4; have nt4 := et4
   rcases Bool.eq_false_or_eq_true (!(decide (t3.nm = t4.nm) && decide (t3.plain = t4.plain) && decide ((t3.val : Int) = t4.val))) with h5 | h5
   ·refine rAn (F := fun w => Mem w0 w []) hK [some (.slice A l.length c), some (vN i), some (.pointer (some (at3.add (i * 3)))), some (.agg #[Str t3.nm, .bool t3.plain, .int .i64 t3.val]), some (.slice B m.length d), some (vN i), some (.pointer (some (at4.add (i * 3)))), some (.agg #[Str t4.nm, .bool t4.plain, .int .i64 t4.val]), some (.bool true)] 9 (fun _ _ hb hm => hm.go hb) hM (by kernel_rfl) (by kernel_rfl) ⟨⟨⟨⟨⟨⟨⟨⟨⟨trivial, ?_⟩, ?_⟩, ?_⟩, ?_⟩, ?_⟩, ?_⟩, ?_⟩, ?_⟩, ?_⟩ [(24, .bool true), (5, vN i), (14, .bool true), (12, .int .i64 ((l.length : Nat) : Int)), (10, .bool false), (4, .bool false), (0, .slice A l.length c), (1, .slice B m.length d), (13, vN i)] (by kernel_rfl) fun a w hK hM => ?_
    ·exact .val (.slice A l.length c) rfl (by kernel_rfl) (fun w hM => (by kernel_rfl))
    ·exact .val (vN i) rfl (by kernel_rfl) (fun w hM => (by kernel_rfl))
    ·exact .val (.pointer (some (at3.add (i * 3)))) rfl (by kernel_rfl) (fun w hM => (rX (k := i) (s := 3) rfl rfl At3 rfl Tryz.underlying22 (by kernel_rfl) (by omega)))
    ·exact .val (.agg #[Str t3.nm, .bool t3.plain, .int .i64 t3.val]) rfl (by kernel_rfl) (fun w hM => rL rfl rfl ((ct3.on hM.below)) (by kernel_rfl))
    ·exact .val (.slice B m.length d) rfl (by kernel_rfl) (fun w hM => (by kernel_rfl))
    ·exact .val (vN i) rfl (by kernel_rfl) (fun w hM => (by kernel_rfl))
    ·exact .val (.pointer (some (at4.add (i * 3)))) rfl (by kernel_rfl) (fun w hM => (rX (k := i) (s := 3) rfl rfl At4 rfl Tryz.underlying22 (by kernel_rfl) (by omega)))
    ·exact .val (.agg #[Str t4.nm, .bool t4.plain, .int .i64 t4.val]) rfl (by kernel_rfl) (fun w hM => rL rfl rfl ((ct4.on hM.below)) (by kernel_rfl))
    ·exact .val (.bool true) rfl (by kernel_rfl) (fun w hM => (oB (b := (!(decide (t3.nm = t4.nm) && decide (t3.plain = t4.plain) && decide ((t3.val : Int) = t4.val)))) (run_neqDcl rfl rfl rfl) h5))
    refine wp_cond_true (hK.get rfl) ?_
    refine wp_seq ?_
    refine rg1 (by kernel_rfl) ?_
    refine sP hK 4 (.bool false) (by kernel_rfl) (by kernel_rfl) fun a hK => ?_
    refine rps ?_
    refine wp_ret ?_
    exact ret_t hK rfl (u := (.bool false)) rfl (⟨by have hs : dcSame t3 t4 = false := (by have h9 := h5; unfold dcSame; revert h9; cases (decide (t3.nm = t4.nm) && decide (t3.plain = t4.plain) && decide (t3.val = t4.val)) <;> decide); unfold dcsEq; rw [hne, ← hR.2, dcsSame_step ht3 ht4, hs]; rfl, hM.below⟩)
   ·refine rAn (F := fun w => Mem w0 w []) hK [some (.slice A l.length c), some (vN i), some (.pointer (some (at3.add (i * 3)))), some (.agg #[Str t3.nm, .bool t3.plain, .int .i64 t3.val]), some (.slice B m.length d), some (vN i), some (.pointer (some (at4.add (i * 3)))), some (.agg #[Str t4.nm, .bool t4.plain, .int .i64 t4.val]), some (.bool false)] 9 (fun _ _ hb hm => hm.go hb) hM (by kernel_rfl) (by kernel_rfl) ⟨⟨⟨⟨⟨⟨⟨⟨⟨trivial, ?_⟩, ?_⟩, ?_⟩, ?_⟩, ?_⟩, ?_⟩, ?_⟩, ?_⟩, ?_⟩ [(24, .bool false), (5, vN i), (14, .bool true), (12, .int .i64 ((l.length : Nat) : Int)), (10, .bool false), (4, .bool false), (0, .slice A l.length c), (1, .slice B m.length d), (13, vN i)] (by kernel_rfl) fun a w hK hM => ?_
    ·exact .val (.slice A l.length c) rfl (by kernel_rfl) (fun w hM => (by kernel_rfl))
    ·exact .val (vN i) rfl (by kernel_rfl) (fun w hM => (by kernel_rfl))
    ·exact .val (.pointer (some (at3.add (i * 3)))) rfl (by kernel_rfl) (fun w hM => (rX (k := i) (s := 3) rfl rfl At3 rfl Tryz.underlying22 (by kernel_rfl) (by omega)))
    ·exact .val (.agg #[Str t3.nm, .bool t3.plain, .int .i64 t3.val]) rfl (by kernel_rfl) (fun w hM => rL rfl rfl ((ct3.on hM.below)) (by kernel_rfl))
    ·exact .val (.slice B m.length d) rfl (by kernel_rfl) (fun w hM => (by kernel_rfl))
    ·exact .val (vN i) rfl (by kernel_rfl) (fun w hM => (by kernel_rfl))
    ·exact .val (.pointer (some (at4.add (i * 3)))) rfl (by kernel_rfl) (fun w hM => (rX (k := i) (s := 3) rfl rfl At4 rfl Tryz.underlying22 (by kernel_rfl) (by omega)))
    ·exact .val (.agg #[Str t4.nm, .bool t4.plain, .int .i64 t4.val]) rfl (by kernel_rfl) (fun w hM => rL rfl rfl ((ct4.on hM.below)) (by kernel_rfl))
    ·exact .val (.bool false) rfl (by kernel_rfl) (fun w hM => (oB (b := (!(decide (t3.nm = t4.nm) && decide (t3.plain = t4.plain) && decide ((t3.val : Int) = t4.val)))) (run_neqDcl rfl rfl rfl) h5))
    refine wp_cond_false (hK.get rfl) ?_
    refine wp_skip ?_
    refine rg2 (by kernel_rfl) ?_
    refine sP hK 25 (.int .i64 (((i + 1) : Nat) : Int)) (by kernel_rfl) (run_addN (i := i) (j := 1) rfl rfl rfl (by omega)) fun a hK => ?_
    refine sM hK 13 25 (by kernel_rfl) (.inl rfl) rfl fun a hK => ?_
    refine rps ?_
    have hRn : (i + 1) ≤ l.length ∧ dcsSame (l.drop (i + 1)) (m.drop (i + 1)) = dcsSame l m := ⟨by omega, by have hs : dcSame t3 t4 = true := (by have h9 := h5; unfold dcSame; revert h9; cases (decide (t3.nm = t4.nm) && decide (t3.plain = t4.plain) && decide (t3.val = t4.val)) <;> decide); rw [← hR.2, dcsSame_step ht3 ht4, hs, Bool.true_and]⟩
    have hmn : l.length - (i + 1) < l.length - i := by omega
    exact ⟨i + 1, hK.sub ⟨rfl, rfl, rfl, rfl, rfl, rfl, trivial⟩, hM, hRn, hmn⟩
  ·refine sP hK 14 (.bool false) (by kernel_rfl) (oB (b := (decide ((((i : Nat) : Int) : Int) < ((l.length : Nat) : Int)))) (by kernel_rfl) (decide_eq_false h2)) fun a hK => ?_
   refine rps ?_
   refine wp_seq ?_
   refine wp_cond_false (hK.get rfl) ?_
   refine wp_exit (exit_then (exit_then (exit_here 0 ?_)))
   refine wp_seq ?_
   refine rg1 (by kernel_rfl) ?_
   refine sP hK 4 (.bool true) (by kernel_rfl) (by kernel_rfl) fun a hK => ?_
   refine rps ?_
   refine wp_ret ?_
   exact ret_t hK rfl (u := (.bool true)) rfl (⟨by unfold dcsEq; rw [hne, ← hR.2, dcsSame_end (by omega)]; rfl, hM.below⟩)
set_option maxRecDepth 100000 in
set_option maxHeartbeats 4000000 in
theorem ast_eqTh (l : List Th) : ∀ (m : List Th) (A : Option Addr) (c : Nat) (B : Option Addr) (d : Nat) (w0 : World), ThsAt w0 A l → ThsAt w0 B m → l.length ≤ 9223372036854775807 → m.length ≤ 9223372036854775807 → Calls Tryz.prog 26 #[.slice A l.length c, .slice B m.length d, .func (.func 27) #[] #[]] w0 (Ret w0 (.bool (thsEq l m))) := by
 intro m A c B d w0 hl hm hln hmn
 refine calls_K (args := [.slice A l.length c, .slice B m.length d, .func (.func 27) #[] #[]]) (n := 32) (env := [(0, .slice A l.length c), (1, .slice B m.length d), (2, .func (.func 27) #[] #[])]) Tryz.func26 rfl rfl rfl ⟨rfl, rfl, rfl, trivial⟩ fun a w hK hM => ?_
 refine wp_seq ?_
 refine rg1 (by kernel_rfl) ?_
 refine sP hK 6 (.bool false) (by kernel_rfl) (by kernel_rfl) fun a hK => ?_
 refine rps ?_
 refine wp_seq ?_
 refine wp_seq ?_
 refine rg5 (by kernel_rfl) ?_
 refine sM hK 10 0 (by kernel_rfl) (.inl rfl) rfl fun a hK => ?_
 refine sP hK 11 (.int .i64 ((l.length : Nat) : Int)) (by kernel_rfl) (by kernel_rfl) fun a hK => ?_
 refine sM hK 12 1 (by kernel_rfl) (.inl rfl) rfl fun a hK => ?_
 refine sP hK 13 (.int .i64 ((m.length : Nat) : Int)) (by kernel_rfl) (by kernel_rfl) fun a hK => ?_
 rcases Bool.eq_false_or_eq_true (!(decide ((((l.length : Nat) : Int) : Int) = ((m.length : Nat) : Int)))) with h1 | h1
 ·refine sP hK 14 (.bool true) (by kernel_rfl) (oB (b := (!(decide ((((l.length : Nat) : Int) : Int) = ((m.length : Nat) : Int))))) (by kernel_rfl) h1) fun a hK => ?_
  refine rps ?_
  refine wp_cond_true (hK.get rfl) ?_
  refine wp_seq ?_
  refine rg1 (by kernel_rfl) ?_
  refine sP hK 6 (.bool false) (by kernel_rfl) (by kernel_rfl) fun a hK => ?_
  refine rps ?_
  refine wp_ret ?_
  exact ret_t hK rfl (u := (.bool false)) rfl (⟨by unfold thsEq neI; rw [h1]; rfl, hM.below⟩)
 ·refine sP hK 14 (.bool false) (by kernel_rfl) (oB (b := (!(decide ((((l.length : Nat) : Int) : Int) = ((m.length : Nat) : Int))))) (by kernel_rfl) h1) fun a hK => ?_
  refine rps ?_
  refine wp_cond_false (hK.get rfl) ?_
  refine wp_skip ?_
  refine wp_seq ?_
  refine wp_seq ?_
  have hne : neI ((l.length : Nat) : Int) ((m.length : Nat) : Int) = false := by unfold neI; rw [h1]
  have hlen : l.length = m.length := by have q := h1; simp at q; omega
  refine rg3 (by kernel_rfl) ?_
  refine sM hK 15 0 (by kernel_rfl) (.inl rfl) rfl fun a hK => ?_
  refine sP hK 16 (.int .i64 ((l.length : Nat) : Int)) (by kernel_rfl) (by kernel_rfl) fun a hK => ?_
  refine sP hK 17 (.int .i64 0) (by kernel_rfl) (by kernel_rfl) fun a hK => ?_
  refine rps ?_
  refine wp_block ?_
  refine wLX (fun x : Nat => [(16, .int .i64 ((l.length : Nat) : Int)), (15, .slice A l.length c), (14, .bool false), (6, .bool false), (0, .slice A l.length c), (1, .slice B m.length d), (2, .func (.func 27) #[] #[]), (17, vN x)]) (fun x : Nat => []) (fun x : Nat => x ≤ l.length ∧ thsSame (l.drop x) (m.drop x) = thsSame l m) (fun x : Nat => l.length - x) 0 (hK.sub ⟨rfl, rfl, rfl, rfl, rfl, rfl, rfl, rfl, trivial⟩) hM ⟨Nat.zero_le _, rfl⟩ ?_
  rintro i a w hK hM hR
  replace hK : Knows a 32 [(16, .int .i64 ((l.length : Nat) : Int)), (15, .slice A l.length c), (14, .bool false), (6, .bool false), (0, .slice A l.length c), (1, .slice B m.length d), (2, .func (.func 27) #[] #[]), (17, vN i)] := hK
  replace hM : Mem w0 w [] := hM
  replace hR : i ≤ l.length ∧ thsSame (l.drop i) (m.drop i) = thsSame l m := hR
  refine wp_seq ?_
  refine rg1 (by kernel_rfl) ?_
  by_cases h2 : (((i : Nat) : Int) : Int) < ((l.length : Nat) : Int)
  ·refine sP hK 18 (.bool true) (by kernel_rfl) (oB (b := (decide ((((i : Nat) : Int) : Int) < ((l.length : Nat) : Int)))) (by kernel_rfl) (decide_eq_true h2)) fun a hK => ?_
   refine rps ?_
   refine wp_seq ?_
   refine wp_cond_true (hK.get rfl) ?_
   refine wp_skip ?_
   refine wp_seq ?_
   refine wp_block ?_
   refine wp_seq ?_
   refine rg5 (by kernel_rfl) ?_
   refine sM hK 19 17 (by kernel_rfl) (.inl rfl) rfl fun a hK => ?_
   obtain ⟨t3, ht3⟩ : ∃ t, l[(i : Nat)]? = some t := ⟨_, List.getElem?_eq_getElem (by omega)⟩
   obtain ⟨⟨at3, At3, ct3⟩, et3⟩ := hl _ _ ht3; have nt3 := et3.2
   refine sP hK 20 (.pointer (some (at3.add (i * 1)))) (by kernel_rfl) (rX (k := i) (s := 1) rfl rfl At3 rfl Tryz.underlying23 (by kernel_rfl) (by omega)) fun a hK => ?_
   refine sL hK 21 (.slice t3.A t3.l.length t3.c) (by kernel_rfl) rfl rfl ((ct3.on hM.below)) (by kernel_rfl) fun a hK => ?_
   refine sM hK 7 19 (by kernel_rfl) (.inr rfl) rfl fun a hK => ?_
   refine sM hK 8 21 (by kernel_rfl) (.inr rfl) rfl fun a hK => ?_
   refine rps ?_
   refine wp_seq ?_
   refine rg5 (by kernel_rfl) ?_
   refine sM hK 22 1 (by kernel_rfl) (.inl rfl) rfl fun a hK => ?_
   refine sM hK 23 7 (by kernel_rfl) (.inl rfl) rfl fun a hK => ?_
   obtain ⟨t4, ht4⟩ : ∃ t, m[(i : Nat)]? = some t := ⟨_, List.getElem?_eq_getElem (by omega)⟩
   obtain ⟨⟨at4, At4, ct4⟩, et4⟩ := hm _ _ ht4; have nt4 := et4.2
   refine sP hK 24 (.pointer (some (at4.add (i * 1)))) (by kernel_rfl) (rX (k := i) (s := 1) rfl rfl At4 rfl Tryz.underlying23 (by kernel_rfl) (by omega)) fun a hK => ?_
   refine sL hK 25 (.slice t4.A t4.l.length t4.c) (by kernel_rfl) rfl rfl ((ct4.on hM.below)) (by kernel_rfl) fun a hK => ?_
   refine sM hK 9 25 (by kernel_rfl) (.inr rfl) rfl fun a hK => ?_
   refine rps ?_
   refine wp_seq ?_
   refine rg5 (by kernel_rfl) ?_
   refine sM hK 26 2 (by kernel_rfl) (.inl rfl) rfl fun a hK => ?_
   refine sM hK 27 8 (by kernel_rfl) (.inl rfl) rfl fun a hK => ?_
   refine sM hK 28 9 (by kernel_rfl) (.inl rfl) rfl fun a hK => ?_
   rcases Bool.eq_false_or_eq_true (smsEq t3.l t4.l) with h5 | h5
   ·refine sR hK hM 29 #[.slice t3.A t3.l.length t3.c, .slice t4.A t4.l.length t4.c] (.bool true) (by kernel_rfl) (rC en_ast_sameStmts rfl rfl (by kernel_rfl)) (ret_eq (ast_sameStmts t3.l t4.l _ _ _ _ _ (et3.1.on hM.below) (et4.1.on hM.below) (by omega) (by omega)) (congrArg Value.bool h5)) fun a w hK hM => ?_
    refine sP hK 30 (.bool false) (by kernel_rfl) (by kernel_rfl) fun a hK => ?_
    refine rps ?_
    refine wp_cond_false (hK.get rfl) ?_
    refine wp_skip ?_
    refine rg2 (by kernel_rfl) ?_
    refine sP hK 31 (.int .i64 (((i + 1) : Nat) : Int)) (by kernel_rfl) (run_addN (i := i) (j := 1) rfl rfl rfl (by omega)) fun a hK => ?_
    refine sM hK 17 31 (by kernel_rfl) (.inl rfl) rfl fun a hK => ?_
    refine rps ?_
    have hRn : (i + 1) ≤ l.length ∧ thsSame (l.drop (i + 1)) (m.drop (i + 1)) = thsSame l m := ⟨by omega, by have hs : smsEq t3.l t4.l = true := (by have h9 := h5; simpa using h9); rw [← hR.2, thsSame_step ht3 ht4, hs, Bool.true_and]⟩
    have hmn : l.length - (i + 1) < l.length - i := by omega
    exact ⟨i + 1, hK.sub ⟨rfl, rfl, rfl, rfl, rfl, rfl, rfl, rfl, trivial⟩, hM, hRn, hmn⟩
   ·refine sR hK hM 29 #[.slice t3.A t3.l.length t3.c, .slice t4.A t4.l.length t4.c] (.bool false) (by kernel_rfl) (rC en_ast_sameStmts rfl rfl (by kernel_rfl)) (ret_eq (ast_sameStmts t3.l t4.l _ _ _ _ _ (et3.1.on hM.below) (et4.1.on hM.below) (by omega) (by omega)) (congrArg Value.bool h5)) fun a w hK hM => ?_
    refine sP hK 30 (.bool true) (by kernel_rfl) (by kernel_rfl) fun a hK => ?_
    refine rps ?_
    refine wp_cond_true (hK.get rfl) ?_
    refine wp_seq ?_
    refine rg1 (by kernel_rfl) ?_
    refine sP hK 6 (.bool false) (by kernel_rfl) (by kernel_rfl) fun a hK => ?_
    refine rps ?_
    refine wp_ret ?_
    exact ret_t hK rfl (u := (.bool false)) rfl (⟨by have hs : smsEq t3.l t4.l = false := (by have h9 := h5; simpa using h9); unfold thsEq; rw [hne, ← hR.2, thsSame_step ht3 ht4, hs]; rfl, hM.below⟩)
  ·refine sP hK 18 (.bool false) (by kernel_rfl) (oB (b := (decide ((((i : Nat) : Int) : Int) < ((l.length : Nat) : Int)))) (by kernel_rfl) (decide_eq_false h2)) fun a hK => ?_
   refine rps ?_
   refine wp_seq ?_
   refine wp_cond_false (hK.get rfl) ?_
   refine wp_exit (exit_then (exit_then (exit_here 0 ?_)))
   refine wp_seq ?_
   refine rg1 (by kernel_rfl) ?_
   refine sP hK 6 (.bool true) (by kernel_rfl) (by kernel_rfl) fun a hK => ?_
   refine rps ?_
   refine wp_ret ?_
   exact ret_t hK rfl (u := (.bool true)) rfl (⟨by unfold thsEq; rw [hne, ← hR.2, thsSame_end (by omega)]; rfl, hM.below⟩)
set_option maxRecDepth 100000 in
set_option maxHeartbeats 4000000 in
theorem ast_Same (p q : Pg) (w0 : World) (hp : PgAt w0 p) (hq : PgAt w0 q) : Calls Tryz.prog 7 #[vG p, vG q] w0 (Ret w0 (.bool (pgSame p q))) := by
 have hpl := hp.len; have hql := hq.len
 refine calls_K (args := [vG p, vG q]) (n := 17) (env := [(0, vG p), (1, vG q)]) Tryz.func7 rfl rfl rfl ⟨rfl, rfl, trivial⟩ fun a w hK hM => ?_
 refine wp_seq ?_
 refine rg3 (by kernel_rfl) ?_
 refine sA hK hM 2 25 [.slice p.A1 p.ds.length p.c1, .slice p.A2 p.ts.length p.c2] (fun b => pA b 0) (by kernel_rfl) (by kernel_rfl) fun b1 a w hK hM => ?_
 refine sA hK hM 3 25 [.slice q.A1 q.ds.length q.c1, .slice q.A2 q.ts.length q.c2] (fun b => pA b 0) (by kernel_rfl) (by kernel_rfl) fun b2 a w hK hM => ?_
 refine sP hK 4 (.bool false) (by kernel_rfl) (by kernel_rfl) fun a hK => ?_
 refine rps ?_
 refine wp_seq ?_
 refine rg13 (by kernel_rfl) ?_
 refine sP hK 5 (pA b1 0) (by kernel_rfl) (by kernel_rfl) fun a hK => ?_
 refine sL hK 6 (.slice p.A1 p.ds.length p.c1) (by kernel_rfl) rfl rfl ((hM.row 1 rfl).cells 0 1) (by kernel_rfl) fun a hK => ?_
 refine sP hK 7 (pA b2 0) (by kernel_rfl) (by kernel_rfl) fun a hK => ?_
 refine sL hK 8 (.slice q.A1 q.ds.length q.c1) (by kernel_rfl) rfl rfl ((hM.row 0 rfl).cells 0 1) (by kernel_rfl) fun a hK => ?_
 rcases Bool.eq_false_or_eq_true (dcsEq p.ds q.ds) with h3 | h3
 ·refine sR hK hM 9 #[.slice p.A1 p.ds.length p.c1, .slice q.A1 q.ds.length q.c1] (.bool true) (by kernel_rfl) (rC en_eq_Decl rfl rfl (by kernel_rfl)) (ret_eq (ast_eqDc p.ds q.ds _ _ _ _ _ (hp.on hM.below).decls (hq.on hM.below).decls hpl.1 hql.1) (congrArg Value.bool h3)) fun a w hK hM => ?_
  refine sM hK 10 9 (by kernel_rfl) (.inl rfl) rfl fun a hK => ?_
  refine sP hK 11 (pA b1 1) (by kernel_rfl) (by kernel_rfl) fun a hK => ?_
  refine sL hK 12 (.slice p.A2 p.ts.length p.c2) (by kernel_rfl) rfl rfl ((hM.row 1 rfl).cells 1 1) (by kernel_rfl) fun a hK => ?_
  refine sP hK 13 (pA b2 1) (by kernel_rfl) (by kernel_rfl) fun a hK => ?_
  refine sL hK 14 (.slice q.A2 q.ts.length q.c2) (by kernel_rfl) rfl rfl ((hM.row 0 rfl).cells 1 1) (by kernel_rfl) fun a hK => ?_
  rcases Bool.eq_false_or_eq_true (thsEq p.ts q.ts) with h4 | h4
  ·refine sR hK hM 15 #[.slice p.A2 p.ts.length p.c2, .slice q.A2 q.ts.length q.c2, .func (.func 27) #[] #[]] (.bool true) (by kernel_rfl) (rC en_eq_Thread rfl rfl (by kernel_rfl)) (ret_eq (ast_eqTh p.ts q.ts _ _ _ _ _ (hp.on hM.below).threads (hq.on hM.below).threads hpl.2 hql.2) (congrArg Value.bool h4)) fun a w hK hM => ?_
   refine sP hK 16 (.bool true) (by kernel_rfl) (by kernel_rfl) fun a hK => ?_
   refine sM hK 4 16 (by kernel_rfl) (.inr rfl) rfl fun a hK => ?_
   refine rps ?_
   refine wp_ret ?_
   exact ret_t hK rfl (u := (.bool true)) rfl (⟨by unfold pgSame; rw [h3, h4]; rfl, hM.below⟩)
  ·refine sR hK hM 15 #[.slice p.A2 p.ts.length p.c2, .slice q.A2 q.ts.length q.c2, .func (.func 27) #[] #[]] (.bool false) (by kernel_rfl) (rC en_eq_Thread rfl rfl (by kernel_rfl)) (ret_eq (ast_eqTh p.ts q.ts _ _ _ _ _ (hp.on hM.below).threads (hq.on hM.below).threads hpl.2 hql.2) (congrArg Value.bool h4)) fun a w hK hM => ?_
   refine sP hK 16 (.bool false) (by kernel_rfl) (by kernel_rfl) fun a hK => ?_
   refine sM hK 4 16 (by kernel_rfl) (.inr rfl) rfl fun a hK => ?_
   refine rps ?_
   refine wp_ret ?_
   exact ret_t hK rfl (u := (.bool false)) rfl (⟨by unfold pgSame; rw [h3, h4]; rfl, hM.below⟩)
 ·refine sR hK hM 9 #[.slice p.A1 p.ds.length p.c1, .slice q.A1 q.ds.length q.c1] (.bool false) (by kernel_rfl) (rC en_eq_Decl rfl rfl (by kernel_rfl)) (ret_eq (ast_eqDc p.ds q.ds _ _ _ _ _ (hp.on hM.below).decls (hq.on hM.below).decls hpl.1 hql.1) (congrArg Value.bool h3)) fun a w hK hM => ?_
  refine sM hK 10 9 (by kernel_rfl) (.inl rfl) rfl fun a hK => ?_
  refine sN hK 11 (by kernel_rfl) fun a hK => ?_
  refine sN hK 12 (by kernel_rfl) fun a hK => ?_
  refine sN hK 13 (by kernel_rfl) fun a hK => ?_
  refine sN hK 14 (by kernel_rfl) fun a hK => ?_
  refine sN hK 15 (by kernel_rfl) fun a hK => ?_
  refine sP hK 16 (.bool false) (by kernel_rfl) (by kernel_rfl) fun a hK => ?_
  refine sM hK 4 16 (by kernel_rfl) (.inr rfl) rfl fun a hK => ?_
  refine rps ?_
  refine wp_ret ?_
  exact ret_t hK rfl (u := (.bool false)) rfl (⟨by unfold pgSame; rw [h3]; rfl, hM.below⟩)
set_option maxRecDepth 100000 in
set_option maxHeartbeats 4000000 in
theorem kit_Program (p q : Pg) (w0 : World) (hp : PgAt w0 p) (hq : PgAt w0 q) : Calls Tryz.prog 11 #[vG p, vG q] w0 (Ret w0 (.bool (pgSame p q))) := by
 have hpl := hp.len; have hql := hq.len
 refine calls_K (args := [vG p, vG q]) (n := 60) (env := [(0, vG p), (1, vG q)]) Tryz.func11 rfl rfl rfl ⟨rfl, rfl, trivial⟩ fun a w hK hM => ?_
 refine wp_seq ?_
 refine rg3 (by kernel_rfl) ?_
 refine sA hK hM 2 25 [.slice p.A1 p.ds.length p.c1, .slice p.A2 p.ts.length p.c2] (fun b => pA b 0) (by kernel_rfl) (by kernel_rfl) fun b1 a w hK hM => ?_
 refine sA hK hM 3 25 [.slice q.A1 q.ds.length q.c1, .slice q.A2 q.ts.length q.c2] (fun b => pA b 0) (by kernel_rfl) (by kernel_rfl) fun b2 a w hK hM => ?_
 refine sP hK 4 (.bool false) (by kernel_rfl) (by kernel_rfl) fun a hK => ?_
 refine rps ?_
 refine wp_seq ?_
 refine wp_seq ?_
 refine rg16 (by kernel_rfl) ?_
 refine sP hK 7 (pA b1 0) (by kernel_rfl) (by kernel_rfl) fun a hK => ?_
 refine sL hK 8 (.slice p.A1 p.ds.length p.c1) (by kernel_rfl) rfl rfl ((hM.row 1 rfl).cells 0 1) (by kernel_rfl) fun a hK => ?_
 refine sP hK 9 (.int .i64 ((p.ds.length : Nat) : Int)) (by kernel_rfl) (by kernel_rfl) fun a hK => ?_
 refine sP hK 10 (pA b2 0) (by kernel_rfl) (by kernel_rfl) fun a hK => ?_
 refine sL hK 11 (.slice q.A1 q.ds.length q.c1) (by kernel_rfl) rfl rfl ((hM.row 0 rfl).cells 0 1) (by kernel_rfl) fun a hK => ?_
 refine sP hK 12 (.int .i64 ((q.ds.length : Nat) : Int)) (by kernel_rfl) (by kernel_rfl) fun a hK => ?_
 rcases Bool.eq_false_or_eq_true (!(decide ((((p.ds.length : Nat) : Int) : Int) = ((q.ds.length : Nat) : Int)))) with h3 | h3
 ·refine sP hK 13 (.bool true) (by kernel_rfl) (oB (b := (!(decide ((((p.ds.length : Nat) : Int) : Int) = ((q.ds.length : Nat) : Int))))) (by kernel_rfl) h3) fun a hK => ?_
  refine sM hK 14 13 (by kernel_rfl) (.inl rfl) rfl fun a hK => ?_
  refine sN hK 15 (by kernel_rfl) fun a hK => ?_
  refine sN hK 16 (by kernel_rfl) fun a hK => ?_
  refine sN hK 17 (by kernel_rfl) fun a hK => ?_
  refine sN hK 18 (by kernel_rfl) fun a hK => ?_
  refine sN hK 19 (by kernel_rfl) fun a hK => ?_
  refine sN hK 20 (by kernel_rfl) fun a hK => ?_
  refine sN hK 21 (by kernel_rfl) fun a hK => ?_
  refine sP hK 22 (.bool true) (by kernel_rfl) (by kernel_rfl) fun a hK => ?_
  refine rps ?_
  refine wp_cond_true (hK.get rfl) ?_
  refine wp_seq ?_
  refine rg1 (by kernel_rfl) ?_
  refine sP hK 4 (.bool false) (by kernel_rfl) (by kernel_rfl) fun a hK => ?_
  refine rps ?_
  refine wp_ret ?_
  exact ret_t hK rfl (u := (.bool false)) rfl (⟨by unfold pgSame dcsEq thsEq neI; rw [h3]; first | rfl | exact (Bool.and_false _).symm ▸ rfl, hM.below⟩)
 ·refine sP hK 13 (.bool false) (by kernel_rfl) (oB (b := (!(decide ((((p.ds.length : Nat) : Int) : Int) = ((q.ds.length : Nat) : Int))))) (by kernel_rfl) h3) fun a hK => ?_
  refine sM hK 14 13 (by kernel_rfl) (.inl rfl) rfl fun a hK => ?_
  refine sP hK 15 (pA b1 1) (by kernel_rfl) (by kernel_rfl) fun a hK => ?_
  refine sL hK 16 (.slice p.A2 p.ts.length p.c2) (by kernel_rfl) rfl rfl ((hM.row 1 rfl).cells 1 1) (by kernel_rfl) fun a hK => ?_
  refine sP hK 17 (.int .i64 ((p.ts.length : Nat) : Int)) (by kernel_rfl) (by kernel_rfl) fun a hK => ?_
  refine sP hK 18 (pA b2 1) (by kernel_rfl) (by kernel_rfl) fun a hK => ?_
  refine sL hK 19 (.slice q.A2 q.ts.length q.c2) (by kernel_rfl) rfl rfl ((hM.row 0 rfl).cells 1 1) (by kernel_rfl) fun a hK => ?_
  refine sP hK 20 (.int .i64 ((q.ts.length : Nat) : Int)) (by kernel_rfl) (by kernel_rfl) fun a hK => ?_
  rcases Bool.eq_false_or_eq_true (!(decide ((((p.ts.length : Nat) : Int) : Int) = ((q.ts.length : Nat) : Int)))) with h4 | h4
  ·refine sP hK 21 (.bool true) (by kernel_rfl) (oB (b := (!(decide ((((p.ts.length : Nat) : Int) : Int) = ((q.ts.length : Nat) : Int))))) (by kernel_rfl) h4) fun a hK => ?_
   refine sP hK 22 (.bool true) (by kernel_rfl) (by kernel_rfl) fun a hK => ?_
   refine rps ?_
   refine wp_cond_true (hK.get rfl) ?_
   refine wp_seq ?_
   refine rg1 (by kernel_rfl) ?_
   refine sP hK 4 (.bool false) (by kernel_rfl) (by kernel_rfl) fun a hK => ?_
   refine rps ?_
   refine wp_ret ?_
   exact ret_t hK rfl (u := (.bool false)) rfl (⟨by unfold pgSame dcsEq thsEq neI; rw [h3, h4]; first | rfl | exact (Bool.and_false _).symm ▸ rfl, hM.below⟩)
  ·refine sP hK 21 (.bool false) (by kernel_rfl) (oB (b := (!(decide ((((p.ts.length : Nat) : Int) : Int) = ((q.ts.length : Nat) : Int))))) (by kernel_rfl) h4) fun a hK => ?_
   refine sP hK 22 (.bool false) (by kernel_rfl) (by kernel_rfl) fun a hK => ?_
   refine rps ?_
   refine wp_cond_false (hK.get rfl) ?_
   refine wp_skip ?_
   refine wp_seq ?_
   refine wp_seq ?_
   have hnd : neI ((p.ds.length : Nat) : Int) ((q.ds.length : Nat) : Int) = false := by unfold neI; rw [h3]
   have hnt : neI ((p.ts.length : Nat) : Int) ((q.ts.length : Nat) : Int) = false := by unfold neI; rw [h4]
   have hld : p.ds.length = q.ds.length := by have q9 := h3; simp at q9; omega
   have hlt : p.ts.length = q.ts.length := by have q9 := h4; simp at q9; omega
   refine rg1 (by kernel_rfl) ?_
   refine sP hK 5 (.int .i64 0) (by kernel_rfl) (by kernel_rfl) fun a hK => ?_
   refine rps ?_
   refine wp_block ?_
   refine wLX (fun x : Nat => [(22, .bool false), (4, .bool false), (3, pA b2 0), (2, pA b1 0), (0, vG p), (1, vG q), (5, vN x)]) (fun x : Nat => [.row b2 25 [.slice q.A1 q.ds.length q.c1, .slice q.A2 q.ts.length q.c2], .row b1 25 [.slice p.A1 p.ds.length p.c1, .slice p.A2 p.ts.length p.c2]]) (fun x : Nat => x ≤ p.ds.length ∧ dcsSame (p.ds.drop x) (q.ds.drop x) = dcsSame p.ds q.ds) (fun x : Nat => p.ds.length - x) 0 (hK.sub ⟨rfl, rfl, rfl, rfl, rfl, rfl, rfl, trivial⟩) hM ⟨Nat.zero_le _, rfl⟩ ?_
   rintro i a w hK hM hR
   replace hK : Knows a 60 [(22, .bool false), (4, .bool false), (3, pA b2 0), (2, pA b1 0), (0, vG p), (1, vG q), (5, vN i)] := hK
   replace hM : Mem w0 w [.row b2 25 [.slice q.A1 q.ds.length q.c1, .slice q.A2 q.ts.length q.c2], .row b1 25 [.slice p.A1 p.ds.length p.c1, .slice p.A2 p.ts.length p.c2]] := hM
   replace hR : i ≤ p.ds.length ∧ dcsSame (p.ds.drop i) (q.ds.drop i) = dcsSame p.ds q.ds := hR
   refine wp_seq ?_
   refine wp_seq ?_
   refine rg5 (by kernel_rfl) ?_
   refine sM hK 23 5 (by kernel_rfl) (.inl rfl) rfl fun a hK => ?_
   refine sP hK 24 (pA b1 0) (by kernel_rfl) (by kernel_rfl) fun a hK => ?_
   refine sL hK 25 (.slice p.A1 p.ds.length p.c1) (by kernel_rfl) rfl rfl ((hM.row 1 rfl).cells 0 1) (by kernel_rfl) fun a hK => ?_
   refine sP hK 26 (.int .i64 ((p.ds.length : Nat) : Int)) (by kernel_rfl) (by kernel_rfl) fun a hK => ?_
   by_cases h5 : (((i : Nat) : Int) : Int) < ((p.ds.length : Nat) : Int)
   ·refine sP hK 27 (.bool true) (by kernel_rfl) (oB (b := (decide ((((i : Nat) : Int) : Int) < ((p.ds.length : Nat) : Int)))) (by kernel_rfl) (decide_eq_true h5)) fun a hK => ?_
    refine rps ?_
    refine wp_cond_true (hK.get rfl) ?_
    refine wp_skip ?_
    refine wp_seq ?_
    refine wp_block ?_
    refine wp_seq ?_
    obtain ⟨t6, ht6⟩ : ∃ t, p.ds[(i : Nat)]? = some t := ⟨_, List.getElem?_eq_getElem (by omega)⟩
    obtain ⟨⟨at6, At6, ct6⟩, et6⟩ := hp.decls _ _ ht6; have nt6 := et6
    obtain ⟨t7, ht7⟩ : ∃ t, q.ds[(i : Nat)]? = some t := ⟨_, List.getElem?_eq_getElem (by omega)⟩
    obtain ⟨⟨at7, At7, ct7⟩, et7⟩ := hq.decls _ _ ht7; have nt7 := et7
    rcases Bool.eq_false_or_eq_true (!(decide (t6.nm = t7.nm) && decide (t6.plain = t7.plain) && decide ((t6.val : Int) = t7.val))) with h8 | h8
    ·refine rAn (F := fun w => Mem w0 w [.row b2 25 [.slice q.A1 q.ds.length q.c1, .slice q.A2 q.ts.length q.c2], .row b1 25 [.slice p.A1 p.ds.length p.c1, .slice p.A2 p.ts.length p.c2]]) hK [some (pA b1 0), some (.slice p.A1 p.ds.length p.c1), some (vN i), some (.pointer (some (at6.add (i * 3)))), some (.agg #[Str t6.nm, .bool t6.plain, .int .i64 t6.val]), some (pA b2 0), some (.slice q.A1 q.ds.length q.c1), some (vN i), some (.pointer (some (at7.add (i * 3)))), some (.agg #[Str t7.nm, .bool t7.plain, .int .i64 t7.val]), some (.bool true)] 11 (fun _ _ hb hm => hm.go hb) hM (by kernel_rfl) (by kernel_rfl) ⟨⟨⟨⟨⟨⟨⟨⟨⟨⟨⟨trivial, ?_⟩, ?_⟩, ?_⟩, ?_⟩, ?_⟩, ?_⟩, ?_⟩, ?_⟩, ?_⟩, ?_⟩, ?_⟩ [(40, .bool true), (27, .bool true), (22, .bool false), (4, .bool false), (3, pA b2 0), (2, pA b1 0), (0, vG p), (1, vG q), (5, vN i)] (by kernel_rfl) fun a w hK hM => ?_
     ·exact .val (pA b1 0) rfl (by kernel_rfl) (fun w hM => (by kernel_rfl))
     ·exact .val (.slice p.A1 p.ds.length p.c1) rfl (by kernel_rfl) (fun w hM => rL rfl rfl ((hM.row 1 rfl).cells 0 1) (by kernel_rfl))
     ·exact .val (vN i) rfl (by kernel_rfl) (fun w hM => (by kernel_rfl))
     ·exact .val (.pointer (some (at6.add (i * 3)))) rfl (by kernel_rfl) (fun w hM => (rX (k := i) (s := 3) rfl rfl At6 rfl Tryz.underlying22 (by kernel_rfl) (by omega)))
     ·exact .val (.agg #[Str t6.nm, .bool t6.plain, .int .i64 t6.val]) rfl (by kernel_rfl) (fun w hM => rL rfl rfl ((ct6.on hM.below)) (by kernel_rfl))
     ·exact .val (pA b2 0) rfl (by kernel_rfl) (fun w hM => (by kernel_rfl))
     ·exact .val (.slice q.A1 q.ds.length q.c1) rfl (by kernel_rfl) (fun w hM => rL rfl rfl ((hM.row 0 rfl).cells 0 1) (by kernel_rfl))
     ·exact .val (vN i) rfl (by kernel_rfl) (fun w hM => (by kernel_rfl))
     ·exact .val (.pointer (some (at7.add (i * 3)))) rfl (by kernel_rfl) (fun w hM => (rX (k := i) (s := 3) rfl rfl At7 rfl Tryz.underlying22 (by kernel_rfl) (by omega)))
     ·exact .val (.agg #[Str t7.nm, .bool t7.plain, .int .i64 t7.val]) rfl (by kernel_rfl) (fun w hM => rL rfl rfl ((ct7.on hM.below)) (by kernel_rfl))
     ·exact .val (.bool true) rfl (by kernel_rfl) (fun w hM => (oB (b := (!(decide (t6.nm = t7.nm) && decide (t6.plain = t7.plain) && decide ((t6.val : Int) = t7.val)))) (run_neqDcl rfl rfl rfl) h8))
     refine wp_cond_true (hK.get rfl) ?_
     refine wp_seq ?_
     refine rg1 (by kernel_rfl) ?_
     refine sP hK 4 (.bool false) (by kernel_rfl) (by kernel_rfl) fun a hK => ?_
     refine rps ?_
     refine wp_ret ?_
     exact ret_t hK rfl (u := (.bool false)) rfl (⟨by have hs : dcSame t6 t7 = false := (by have h9 := h8; unfold dcSame; revert h9; cases (decide (t6.nm = t7.nm) && decide (t6.plain = t7.plain) && decide (t6.val = t7.val)) <;> decide); unfold pgSame dcsEq; rw [hnd, ← hR.2, dcsSame_step ht6 ht7, hs]; rfl, hM.below⟩)
    ·refine rAn (F := fun w => Mem w0 w [.row b2 25 [.slice q.A1 q.ds.length q.c1, .slice q.A2 q.ts.length q.c2], .row b1 25 [.slice p.A1 p.ds.length p.c1, .slice p.A2 p.ts.length p.c2]]) hK [some (pA b1 0), some (.slice p.A1 p.ds.length p.c1), some (vN i), some (.pointer (some (at6.add (i * 3)))), some (.agg #[Str t6.nm, .bool t6.plain, .int .i64 t6.val]), some (pA b2 0), some (.slice q.A1 q.ds.length q.c1), some (vN i), some (.pointer (some (at7.add (i * 3)))), some (.agg #[Str t7.nm, .bool t7.plain, .int .i64 t7.val]), some (.bool false)] 11 (fun _ _ hb hm => hm.go hb) hM (by kernel_rfl) (by kernel_rfl) ⟨⟨⟨⟨⟨⟨⟨⟨⟨⟨⟨trivial, ?_⟩, ?_⟩, ?_⟩, ?_⟩, ?_⟩, ?_⟩, ?_⟩, ?_⟩, ?_⟩, ?_⟩, ?_⟩ [(40, .bool false), (27, .bool true), (22, .bool false), (4, .bool false), (3, pA b2 0), (2, pA b1 0), (0, vG p), (1, vG q), (5, vN i)] (by kernel_rfl) fun a w hK hM => ?_
     ·exact .val (pA b1 0) rfl (by kernel_rfl) (fun w hM => (by kernel_rfl))
     ·exact .val (.slice p.A1 p.ds.length p.c1) rfl (by kernel_rfl) (fun w hM => rL rfl rfl ((hM.row 1 rfl).cells 0 1) (by kernel_rfl))
     ·exact .val (vN i) rfl (by kernel_rfl) (fun w hM => (by kernel_rfl))
     ·exact .val (.pointer (some (at6.add (i * 3)))) rfl (by kernel_rfl) (fun w hM => (rX (k := i) (s := 3) rfl rfl At6 rfl Tryz.underlying22 (by kernel_rfl) (by omega)))
     ·exact .val (.agg #[Str t6.nm, .bool t6.plain, .int .i64 t6.val]) rfl (by kernel_rfl) (fun w hM => rL rfl rfl ((ct6.on hM.below)) (by kernel_rfl))
     ·exact .val (pA b2 0) rfl (by kernel_rfl) (fun w hM => (by kernel_rfl))
     ·exact .val (.slice q.A1 q.ds.length q.c1) rfl (by kernel_rfl) (fun w hM => rL rfl rfl ((hM.row 0 rfl).cells 0 1) (by kernel_rfl))
     ·exact .val (vN i) rfl (by kernel_rfl) (fun w hM => (by kernel_rfl))
     ·exact .val (.pointer (some (at7.add (i * 3)))) rfl (by kernel_rfl) (fun w hM => (rX (k := i) (s := 3) rfl rfl At7 rfl Tryz.underlying22 (by kernel_rfl) (by omega)))
     ·exact .val (.agg #[Str t7.nm, .bool t7.plain, .int .i64 t7.val]) rfl (by kernel_rfl) (fun w hM => rL rfl rfl ((ct7.on hM.below)) (by kernel_rfl))
     ·exact .val (.bool false) rfl (by kernel_rfl) (fun w hM => (oB (b := (!(decide (t6.nm = t7.nm) && decide (t6.plain = t7.plain) && decide ((t6.val : Int) = t7.val)))) (run_neqDcl rfl rfl rfl) h8))
     refine wp_cond_false (hK.get rfl) ?_
     refine wp_skip ?_
     refine rg3 (by kernel_rfl) ?_
     refine sM hK 28 5 (by kernel_rfl) (.inl rfl) rfl fun a hK => ?_
     refine sP hK 29 (.int .i64 (((i + 1) : Nat) : Int)) (by kernel_rfl) (run_addN (i := i) (j := 1) rfl rfl rfl (by omega)) fun a hK => ?_
     refine sM hK 5 29 (by kernel_rfl) (.inr rfl) rfl fun a hK => ?_
     refine rps ?_
     have hRn : (i + 1) ≤ p.ds.length ∧ dcsSame (p.ds.drop (i + 1)) (q.ds.drop (i + 1)) = dcsSame p.ds q.ds := ⟨by omega, by have hs : dcSame t6 t7 = true := (by have h9 := h8; unfold dcSame; revert h9; cases (decide (t6.nm = t7.nm) && decide (t6.plain = t7.plain) && decide (t6.val = t7.val)) <;> decide); rw [← hR.2, dcsSame_step ht6 ht7, hs, Bool.true_and]⟩
     have hmn : p.ds.length - (i + 1) < p.ds.length - i := by omega
     exact ⟨i + 1, hK.sub ⟨rfl, rfl, rfl, rfl, rfl, rfl, rfl, trivial⟩, hM, hRn, hmn⟩
   ·refine sP hK 27 (.bool false) (by kernel_rfl) (oB (b := (decide ((((i : Nat) : Int) : Int) < ((p.ds.length : Nat) : Int)))) (by kernel_rfl) (decide_eq_false h5)) fun a hK => ?_
    refine rps ?_
    refine wp_cond_false (hK.get rfl) ?_
    refine wp_exit (exit_then (exit_then (exit_here 0 ?_)))
    refine wp_seq ?_
    refine wp_seq ?_
    refine rg1 (by kernel_rfl) ?_
    refine sP hK 6 (.int .i64 0) (by kernel_rfl) (by kernel_rfl) fun a hK => ?_
    refine rps ?_
    refine wp_block ?_
    have hd : dcsSame p.ds q.ds = true := by rw [← hR.2, dcsSame_end (by omega)]
    refine wLX (fun x : Nat => [(27, .bool false), (22, .bool false), (4, .bool false), (3, pA b2 0), (2, pA b1 0), (0, vG p), (1, vG q), (5, vN i), (6, vN x)]) (fun x : Nat => [.row b2 25 [.slice q.A1 q.ds.length q.c1, .slice q.A2 q.ts.length q.c2], .row b1 25 [.slice p.A1 p.ds.length p.c1, .slice p.A2 p.ts.length p.c2]]) (fun x : Nat => x ≤ p.ts.length ∧ thsSame (p.ts.drop x) (q.ts.drop x) = thsSame p.ts q.ts) (fun x : Nat => p.ts.length - x) 0 (hK.sub ⟨rfl, rfl, rfl, rfl, rfl, rfl, rfl, rfl, rfl, trivial⟩) hM ⟨Nat.zero_le _, rfl⟩ ?_
    rintro k a w hK hM hR
    replace hK : Knows a 60 [(27, .bool false), (22, .bool false), (4, .bool false), (3, pA b2 0), (2, pA b1 0), (0, vG p), (1, vG q), (5, vN i), (6, vN k)] := hK
    replace hM : Mem w0 w [.row b2 25 [.slice q.A1 q.ds.length q.c1, .slice q.A2 q.ts.length q.c2], .row b1 25 [.slice p.A1 p.ds.length p.c1, .slice p.A2 p.ts.length p.c2]] := hM
    replace hR : k ≤ p.ts.length ∧ thsSame (p.ts.drop k) (q.ts.drop k) = thsSame p.ts q.ts := hR
    refine wp_seq ?_
    refine wp_seq ?_
    refine rg5 (by kernel_rfl) ?_
    refine sM hK 41 6 (by kernel_rfl) (.inl rfl) rfl fun a hK => ?_
    refine sP hK 42 (pA b1 1) (by kernel_rfl) (by kernel_rfl) fun a hK => ?_
    refine sL hK 43 (.slice p.A2 p.ts.length p.c2) (by kernel_rfl) rfl rfl ((hM.row 1 rfl).cells 1 1) (by kernel_rfl) fun a hK => ?_
    refine sP hK 44 (.int .i64 ((p.ts.length : Nat) : Int)) (by kernel_rfl) (by kernel_rfl) fun a hK => ?_
    by_cases h9 : (((k : Nat) : Int) : Int) < ((p.ts.length : Nat) : Int)
    ·refine sP hK 45 (.bool true) (by kernel_rfl) (oB (b := (decide ((((k : Nat) : Int) : Int) < ((p.ts.length : Nat) : Int)))) (by kernel_rfl) (decide_eq_true h9)) fun a hK => ?_
     refine rps ?_
     refine wp_cond_true (hK.get rfl) ?_
     refine wp_skip ?_
     refine wp_seq ?_
     refine wp_block ?_
     refine wp_seq ?_
     obtain ⟨t10, ht10⟩ : ∃ t, p.ts[(k : Nat)]? = some t := ⟨_, List.getElem?_eq_getElem (by omega)⟩
     obtain ⟨⟨at10, At10, ct10⟩, et10⟩ := hp.threads _ _ ht10; have nt10 := et10.2
     obtain ⟨t11, ht11⟩ : ∃ t, q.ts[(k : Nat)]? = some t := ⟨_, List.getElem?_eq_getElem (by omega)⟩
     obtain ⟨⟨at11, At11, ct11⟩, et11⟩ := hq.threads _ _ ht11; have nt11 := et11.2
     rcases Bool.eq_false_or_eq_true (smsEq t10.l t11.l) with h12 | h12
     ·refine rAn (F := fun w => Mem w0 w [.row b2 25 [.slice q.A1 q.ds.length q.c1, .slice q.A2 q.ts.length q.c2], .row b1 25 [.slice p.A1 p.ds.length p.c1, .slice p.A2 p.ts.length p.c2]]) hK [some (pA b1 1), some (.slice p.A2 p.ts.length p.c2), some (vN k), some (.pointer (some (at10.add (k * 1)))), some (.slice t10.A t10.l.length t10.c), some (pA b2 1), some (.slice q.A2 q.ts.length q.c2), some (vN k), some (.pointer (some (at11.add (k * 1)))), some (.slice t11.A t11.l.length t11.c), some (.bool true), some (.bool false)] 12 (fun _ _ hb hm => hm.go hb) hM (by kernel_rfl) (by kernel_rfl) ⟨⟨⟨⟨⟨⟨⟨⟨⟨⟨⟨⟨trivial, ?_⟩, ?_⟩, ?_⟩, ?_⟩, ?_⟩, ?_⟩, ?_⟩, ?_⟩, ?_⟩, ?_⟩, ?_⟩, ?_⟩ [(59, .bool false), (45, .bool true), (27, .bool false), (22, .bool false), (4, .bool false), (3, pA b2 0), (2, pA b1 0), (0, vG p), (1, vG q), (5, vN i), (6, vN k)] (by kernel_rfl) fun a w hK hM => ?_
      ·exact .val (pA b1 1) rfl (by kernel_rfl) (fun w hM => (by kernel_rfl))
      ·exact .val (.slice p.A2 p.ts.length p.c2) rfl (by kernel_rfl) (fun w hM => rL rfl rfl ((hM.row 1 rfl).cells 1 1) (by kernel_rfl))
      ·exact .val (vN k) rfl (by kernel_rfl) (fun w hM => (by kernel_rfl))
      ·exact .val (.pointer (some (at10.add (k * 1)))) rfl (by kernel_rfl) (fun w hM => (rX (k := k) (s := 1) rfl rfl At10 rfl Tryz.underlying23 (by kernel_rfl) (by omega)))
      ·exact .val (.slice t10.A t10.l.length t10.c) rfl (by kernel_rfl) (fun w hM => rL rfl rfl ((ct10.on hM.below)) (by kernel_rfl))
      ·exact .val (pA b2 1) rfl (by kernel_rfl) (fun w hM => (by kernel_rfl))
      ·exact .val (.slice q.A2 q.ts.length q.c2) rfl (by kernel_rfl) (fun w hM => rL rfl rfl ((hM.row 0 rfl).cells 1 1) (by kernel_rfl))
      ·exact .val (vN k) rfl (by kernel_rfl) (fun w hM => (by kernel_rfl))
      ·exact .val (.pointer (some (at11.add (k * 1)))) rfl (by kernel_rfl) (fun w hM => (rX (k := k) (s := 1) rfl rfl At11 rfl Tryz.underlying23 (by kernel_rfl) (by omega)))
      ·exact .val (.slice t11.A t11.l.length t11.c) rfl (by kernel_rfl) (fun w hM => rL rfl rfl ((ct11.on hM.below)) (by kernel_rfl))
      ·exact .call _ #[.slice t10.A t10.l.length t10.c, .slice t11.A t11.l.length t11.c] (.bool true) rfl (by kernel_rfl) (fun w => (rC en_cantileverkit_Stmts rfl rfl (by kernel_rfl))) (fun w hM => ret_eq (kit_Stmts t10.l t11.l _ _ _ _ _ (et10.1.on hM.below) (et11.1.on hM.below) (by omega) (by omega)) (congrArg Value.bool h12))
      ·exact .val (.bool false) rfl (by kernel_rfl) (fun w hM => (by kernel_rfl))
      refine wp_cond_false (hK.get rfl) ?_
      refine wp_skip ?_
      refine rg3 (by kernel_rfl) ?_
      refine sM hK 46 6 (by kernel_rfl) (.inl rfl) rfl fun a hK => ?_
      refine sP hK 47 (.int .i64 (((k + 1) : Nat) : Int)) (by kernel_rfl) (run_addN (i := k) (j := 1) rfl rfl rfl (by omega)) fun a hK => ?_
      refine sM hK 6 47 (by kernel_rfl) (.inr rfl) rfl fun a hK => ?_
      refine rps ?_
      have hRn : (k + 1) ≤ p.ts.length ∧ thsSame (p.ts.drop (k + 1)) (q.ts.drop (k + 1)) = thsSame p.ts q.ts := ⟨by omega, by have hs : smsEq t10.l t11.l = true := (by have h9 := h12; simpa using h9); rw [← hR.2, thsSame_step ht10 ht11, hs, Bool.true_and]⟩
      have hmn : p.ts.length - (k + 1) < p.ts.length - k := by omega
      exact ⟨k + 1, hK.sub ⟨rfl, rfl, rfl, rfl, rfl, rfl, rfl, rfl, rfl, trivial⟩, hM, hRn, hmn⟩
     ·refine rAn (F := fun w => Mem w0 w [.row b2 25 [.slice q.A1 q.ds.length q.c1, .slice q.A2 q.ts.length q.c2], .row b1 25 [.slice p.A1 p.ds.length p.c1, .slice p.A2 p.ts.length p.c2]]) hK [some (pA b1 1), some (.slice p.A2 p.ts.length p.c2), some (vN k), some (.pointer (some (at10.add (k * 1)))), some (.slice t10.A t10.l.length t10.c), some (pA b2 1), some (.slice q.A2 q.ts.length q.c2), some (vN k), some (.pointer (some (at11.add (k * 1)))), some (.slice t11.A t11.l.length t11.c), some (.bool false), some (.bool true)] 12 (fun _ _ hb hm => hm.go hb) hM (by kernel_rfl) (by kernel_rfl) ⟨⟨⟨⟨⟨⟨⟨⟨⟨⟨⟨⟨trivial, ?_⟩, ?_⟩, ?_⟩, ?_⟩, ?_⟩, ?_⟩, ?_⟩, ?_⟩, ?_⟩, ?_⟩, ?_⟩, ?_⟩ [(59, .bool true), (45, .bool true), (27, .bool false), (22, .bool false), (4, .bool false), (3, pA b2 0), (2, pA b1 0), (0, vG p), (1, vG q), (5, vN i), (6, vN k)] (by kernel_rfl) fun a w hK hM => ?_
      ·exact .val (pA b1 1) rfl (by kernel_rfl) (fun w hM => (by kernel_rfl))
      ·exact .val (.slice p.A2 p.ts.length p.c2) rfl (by kernel_rfl) (fun w hM => rL rfl rfl ((hM.row 1 rfl).cells 1 1) (by kernel_rfl))
      ·exact .val (vN k) rfl (by kernel_rfl) (fun w hM => (by kernel_rfl))
      ·exact .val (.pointer (some (at10.add (k * 1)))) rfl (by kernel_rfl) (fun w hM => (rX (k := k) (s := 1) rfl rfl At10 rfl Tryz.underlying23 (by kernel_rfl) (by omega)))
      ·exact .val (.slice t10.A t10.l.length t10.c) rfl (by kernel_rfl) (fun w hM => rL rfl rfl ((ct10.on hM.below)) (by kernel_rfl))
      ·exact .val (pA b2 1) rfl (by kernel_rfl) (fun w hM => (by kernel_rfl))
      ·exact .val (.slice q.A2 q.ts.length q.c2) rfl (by kernel_rfl) (fun w hM => rL rfl rfl ((hM.row 0 rfl).cells 1 1) (by kernel_rfl))
      ·exact .val (vN k) rfl (by kernel_rfl) (fun w hM => (by kernel_rfl))
      ·exact .val (.pointer (some (at11.add (k * 1)))) rfl (by kernel_rfl) (fun w hM => (rX (k := k) (s := 1) rfl rfl At11 rfl Tryz.underlying23 (by kernel_rfl) (by omega)))
      ·exact .val (.slice t11.A t11.l.length t11.c) rfl (by kernel_rfl) (fun w hM => rL rfl rfl ((ct11.on hM.below)) (by kernel_rfl))
      ·exact .call _ #[.slice t10.A t10.l.length t10.c, .slice t11.A t11.l.length t11.c] (.bool false) rfl (by kernel_rfl) (fun w => (rC en_cantileverkit_Stmts rfl rfl (by kernel_rfl))) (fun w hM => ret_eq (kit_Stmts t10.l t11.l _ _ _ _ _ (et10.1.on hM.below) (et11.1.on hM.below) (by omega) (by omega)) (congrArg Value.bool h12))
      ·exact .val (.bool true) rfl (by kernel_rfl) (fun w hM => (by kernel_rfl))
      refine wp_cond_true (hK.get rfl) ?_
      refine wp_seq ?_
      refine rg1 (by kernel_rfl) ?_
      refine sP hK 4 (.bool false) (by kernel_rfl) (by kernel_rfl) fun a hK => ?_
      refine rps ?_
      refine wp_ret ?_
      exact ret_t hK rfl (u := (.bool false)) rfl (⟨by have hs : smsEq t10.l t11.l = false := (by have h9 := h12; simpa using h9); unfold pgSame thsEq; rw [hnt, ← hR.2, thsSame_step ht10 ht11, hs]; exact (Bool.and_false _).symm ▸ rfl, hM.below⟩)
    ·refine sP hK 45 (.bool false) (by kernel_rfl) (oB (b := (decide ((((k : Nat) : Int) : Int) < ((p.ts.length : Nat) : Int)))) (by kernel_rfl) (decide_eq_false h9)) fun a hK => ?_
     refine rps ?_
     refine wp_cond_false (hK.get rfl) ?_
     refine wp_exit (exit_then (exit_then (exit_here 2 ?_)))
     refine wp_seq ?_
     refine rg1 (by kernel_rfl) ?_
     refine sP hK 4 (.bool true) (by kernel_rfl) (by kernel_rfl) fun a hK => ?_
     refine rps ?_
     refine wp_ret ?_
     exact ret_t hK rfl (u := (.bool true)) rfl (⟨by unfold pgSame dcsEq thsEq; rw [hnd, hnt, hd, ← hR.2, thsSame_end (by omega)]; rfl, hM.below⟩)
end Go.Proofs.YtiigncmpbkfhmaaGreatDoor
