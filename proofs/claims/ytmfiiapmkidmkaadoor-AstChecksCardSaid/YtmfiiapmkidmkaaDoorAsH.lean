/-
 What may be, by the document's answers.
-/
import Derived.Test.YtmfiiapmkidmkaaDoorAsE
import Derived.Test.YtmfiiapmkidmkaaDoorTreeF
import Derived.Test.YtmfiiapmkidmkaaDoorDT
import Derived.Test.YtmfiiapmkidmkaaDoorTreeG
namespace Go.Proofs.YtmfiiapmkidmkaaDoor
open Go Go.RowKit
abbrev pA (b k : Nat) : Value := .pointer (some ⟨b, k, none⟩)
abbrev sT : Option Value := some (.bool true)
abbrev sF : Option Value := some (.bool false)
abbrev sU : Option Value := some undef

theorem en_ref_Word2 : Enters Tryd.prog 72 := enters_of Tryd.func72 (by kernel_rfl) rfl
theorem en_cantileverref03_Word : Enters Tryd.prog 39 := enters_of Tryd.func39 (by kernel_rfl) rfl
set_option maxRecDepth 100000 in
set_option maxHeartbeats 4000000 in
theorem ref_Wd (l : List UInt8) (w0 : World) (hln : l.length ≤ 9223372036854775806) : Calls Tryd.prog 39 #[Str l] w0 (Ret w0 (.bool (isWd l))) := by
 refine calls_K (args := [Str l]) (n := 15) (env := [(0, Str l)]) Tryd.func39 rfl rfl rfl ⟨rfl, trivial⟩ fun a w hK hM => ?_
 refine wp_seq ?_
 refine region_go (lst := [0]) (by kernel_rfl) ?_
 refine stepP hK 2 (.bool false) (by kernel_rfl) (by kernel_rfl) fun a hK => ?_
 refine region_done hK [(2, .bool false), (0, Str l)] ⟨rfl, rfl, trivial⟩ fun a hK => ?_
 refine wp_seq ?_
 refine region_go (lst := [0, 1, 2, 3, 4, 5, 6]) (by kernel_rfl) ?_
 refine stepM hK 6 0 (by kernel_rfl) (.inl rfl) rfl fun a hK => ?_
 refine stepRet hK hM 7 #[Str l] (.tuple #[.int .i64 (((wordOf l).1 : Nat) : Int), .bool (wordOf l).2]) (by kernel_rfl) (run_callE en_ref_Word2 rfl rfl (by kernel_rfl)) (ref_Word l _ (by omega)) fun a w hK hM => ?_
 refine stepM hK 5 7 (by kernel_rfl) (.inl rfl) rfl fun a hK => ?_
 refine stepP hK 8 (.int .i64 (((wordOf l).1 : Nat) : Int)) (by kernel_rfl) (by kernel_rfl) fun a hK => ?_
 rcases Bool.eq_false_or_eq_true (wordOf l).2 with h1 | h1
 ·refine stepP hK 9 (.bool true) (by kernel_rfl) (okBool (b := (wordOf l).2) (by kernel_rfl) h1) fun a hK => ?_
  refine stepM hK 3 8 (by kernel_rfl) (.inr rfl) rfl fun a hK => ?_
  refine stepM hK 4 9 (by kernel_rfl) (.inr rfl) rfl fun a hK => ?_
  refine region_done hK [(4, .bool true), (3, .int .i64 (((wordOf l).1 : Nat) : Int)), (2, .bool false), (0, Str l)] ⟨rfl, rfl, rfl, rfl, trivial⟩ fun a hK => ?_
  refine wp_seq ?_
  refine region_go (lst := [0, 1, 2, 3, 4, 5]) (by kernel_rfl) ?_
  refine stepM hK 10 4 (by kernel_rfl) (.inl rfl) rfl fun a hK => ?_
  refine stepM hK 11 10 (by kernel_rfl) (.inl rfl) rfl fun a hK => ?_
  refine stepM hK 12 3 (by kernel_rfl) (.inl rfl) rfl fun a hK => ?_
  by_cases h2 : ((((wordOf l).1 : Nat) : Int) : Int) = 1
  ·refine stepP hK 13 (.bool true) (by kernel_rfl) (okBool (b := (decide (((((wordOf l).1 : Nat) : Int) : Int) = 1))) (by kernel_rfl) (decide_eq_true h2)) fun a hK => ?_
   refine stepP hK 14 (.bool true) (by kernel_rfl) (by kernel_rfl) fun a hK => ?_
   refine stepM hK 2 14 (by kernel_rfl) (.inr rfl) rfl fun a hK => ?_
   refine region_done hK [(2, .bool true), (4, .bool true), (3, .int .i64 (((wordOf l).1 : Nat) : Int)), (0, Str l)] ⟨rfl, rfl, rfl, rfl, trivial⟩ fun a hK => ?_
   refine wp_ret ?_
   exact ret_t hK rfl (u := (.bool true)) rfl (⟨by unfold isWd; rw [h1, (decide_eq_true h2)]; rfl, hM.below⟩)
  ·refine stepP hK 13 (.bool false) (by kernel_rfl) (okBool (b := (decide (((((wordOf l).1 : Nat) : Int) : Int) = 1))) (by kernel_rfl) (decide_eq_false h2)) fun a hK => ?_
   refine stepP hK 14 (.bool false) (by kernel_rfl) (by kernel_rfl) fun a hK => ?_
   refine stepM hK 2 14 (by kernel_rfl) (.inr rfl) rfl fun a hK => ?_
   refine region_done hK [(2, .bool false), (4, .bool true), (3, .int .i64 (((wordOf l).1 : Nat) : Int)), (0, Str l)] ⟨rfl, rfl, rfl, rfl, trivial⟩ fun a hK => ?_
   refine wp_ret ?_
   exact ret_t hK rfl (u := (.bool false)) rfl (⟨by unfold isWd; rw [h1, (decide_eq_false h2)]; rfl, hM.below⟩)
 ·refine stepP hK 9 (.bool false) (by kernel_rfl) (okBool (b := (wordOf l).2) (by kernel_rfl) h1) fun a hK => ?_
  refine stepM hK 3 8 (by kernel_rfl) (.inr rfl) rfl fun a hK => ?_
  refine stepM hK 4 9 (by kernel_rfl) (.inr rfl) rfl fun a hK => ?_
  refine region_done hK [(4, .bool false), (3, .int .i64 (((wordOf l).1 : Nat) : Int)), (2, .bool false), (0, Str l)] ⟨rfl, rfl, rfl, rfl, trivial⟩ fun a hK => ?_
  refine wp_seq ?_
  refine region_go (lst := [0, 1, 2, 3, 4, 5]) (by kernel_rfl) ?_
  refine stepM hK 10 4 (by kernel_rfl) (.inl rfl) rfl fun a hK => ?_
  refine stepM hK 11 10 (by kernel_rfl) (.inl rfl) rfl fun a hK => ?_
  refine stepN hK 12 (by kernel_rfl) fun a hK => ?_
  refine stepN hK 13 (by kernel_rfl) fun a hK => ?_
  refine stepP hK 14 (.bool false) (by kernel_rfl) (by kernel_rfl) fun a hK => ?_
  refine stepM hK 2 14 (by kernel_rfl) (.inr rfl) rfl fun a hK => ?_
  refine region_done hK [(2, .bool false), (4, .bool false), (3, .int .i64 (((wordOf l).1 : Nat) : Int)), (0, Str l)] ⟨rfl, rfl, rfl, rfl, trivial⟩ fun a hK => ?_
  refine wp_ret ?_
  exact ret_t hK rfl (u := (.bool false)) rfl (⟨by unfold isWd; rw [h1]; rfl, hM.below⟩)
theorem en_cantileverref03_right : Enters Tryd.prog 43 := enters_of Tryd.func43 (by kernel_rfl) rfl
set_option maxRecDepth 100000 in
set_option maxHeartbeats 4000000 in
theorem ref_right (e : Ex) : ∀ (w0 : World), ExAt w0 e → e.sh = true → Calls Tryd.prog 43 #[.agg #[.int .i64 e.op, .int .i64 e.num, Str e.nm, .slice e.A e.ks.length e.c]] w0 (Ret w0 (.bool e.ok)) := by
 induction e using Ex.rec_on
 rename_i e ih
 intro w0 he hs
 have hln := he.len; obtain ⟨hnm, hsk⟩ := ex_sh hs
 refine calls_K (args := [.agg #[.int .i64 e.op, .int .i64 e.num, Str e.nm, .slice e.A e.ks.length e.c]]) (n := 59) (env := [(0, .agg #[.int .i64 e.op, .int .i64 e.num, Str e.nm, .slice e.A e.ks.length e.c])]) Tryd.func43 rfl rfl rfl ⟨rfl, trivial⟩ fun a w hK hM => ?_
 refine wp_seq ?_
 refine region_go (lst := [0, 1]) (by kernel_rfl) ?_
 refine stepAlloc hK hM 1 36 [.int .i64 e.op, .int .i64 e.num, Str e.nm, .slice e.A e.ks.length e.c] (fun b => pA b 0) (by kernel_rfl) (by kernel_rfl) fun b1 a w hK hM => ?_
 refine stepP hK 2 (.bool false) (by kernel_rfl) (by kernel_rfl) fun a hK => ?_
 refine region_done hK [(2, .bool false), (1, pA b1 0), (0, .agg #[.int .i64 e.op, .int .i64 e.num, Str e.nm, .slice e.A e.ks.length e.c])] ⟨rfl, rfl, rfl, trivial⟩ fun a hK => ?_
 refine wp_seq ?_
 refine wp_seq ?_
 refine wp_cut (fun a w => Knows a 59 [(44, .bool (exBad e)), (2, .bool false), (1, pA b1 0), (0, .agg #[.int .i64 e.op, .int .i64 e.num, Str e.nm, .slice e.A e.ks.length e.c])] ∧ Mem w0 w [.row b1 36 [.int .i64 e.op, .int .i64 e.num, Str e.nm, .slice e.A e.ks.length e.c]]) ?_ ?_
 ·rcases Bool.eq_false_or_eq_true (!(decide (((kidsI e.op) : Int) = ((e.ks.length : Nat) : Int)))) with h2 | h2
  ·refine region_any (F := fun w => Mem w0 w [.row b1 36 [.int .i64 e.op, .int .i64 e.num, Str e.nm, .slice e.A e.ks.length e.c]]) hK [some (pA b1 0), some (.int .i64 e.op), some (.int .i64 (kidsI e.op)), some (pA b1 3), some (.slice e.A e.ks.length e.c), some (.int .i64 ((e.ks.length : Nat) : Int)), sT, sT, sU, sU, sU, sU, sU, sU, sU, sT, sT, sU, sU, sU, sU, sU, sU, sU, sU, sT, sT, sU, sU, sU, sT, sT, sU, sU, sU, sU, sU, sU, sU, sU, sT] 41 (fun _ _ hb hm => hm.go hb) hM (by kernel_rfl) (by kernel_rfl) ?_ [(44, .bool true), (2, .bool false), (1, pA b1 0), (0, .agg #[.int .i64 e.op, .int .i64 e.num, Str e.nm, .slice e.A e.ks.length e.c])] (by kernel_rfl) fun a w hK hM => ?_
   iterate 41 refine ⟨?_, ?_⟩
   trivial
   ·exact .val _ rfl (by kernel_rfl) fun _ _ => by kernel_rfl
   ·exact .val _ rfl (by kernel_rfl) fun _ h => run_loadE rfl rfl ((h.row 0 rfl).cells 0 1) (by kernel_rfl)
   ·exact .call _ #[.int .i64 e.op] (.int .i64 (kidsI e.op)) rfl (by kernel_rfl) (fun w => (run_callE en_cantileverref03_kids rfl rfl (by kernel_rfl))) (fun w hM => ref_kids e.op _)
   ·exact .val _ rfl (by kernel_rfl) fun _ _ => by kernel_rfl
   ·exact .val _ rfl (by kernel_rfl) fun _ h => run_loadE rfl rfl ((h.row 0 rfl).cells 3 1) (by kernel_rfl)
   ·exact .val _ rfl (by kernel_rfl) fun _ _ => by kernel_rfl
   ·exact .val _ rfl (by kernel_rfl) (fun w hM => (okBool (by kernel_rfl) h2))
   ·exact .val _ rfl (by kernel_rfl) fun _ _ => by kernel_rfl
   iterate 7 exact .skip rfl (by kernel_rfl)
   iterate 2 exact .val _ rfl (by kernel_rfl) fun _ _ => by kernel_rfl
   iterate 8 exact .skip rfl (by kernel_rfl)
   iterate 2 exact .val _ rfl (by kernel_rfl) fun _ _ => by kernel_rfl
   iterate 3 exact .skip rfl (by kernel_rfl)
   iterate 2 exact .val _ rfl (by kernel_rfl) fun _ _ => by kernel_rfl
   iterate 8 exact .skip rfl (by kernel_rfl)
   ·exact .val _ rfl (by kernel_rfl) fun _ _ => by kernel_rfl
   have e44 : exBad e = true := by unfold exBad; rw [h2]; rfl
   exact ⟨rfl, ⟨(by rw [e44]; exact hK.sub ⟨rfl, rfl, rfl, rfl, trivial⟩), hM⟩⟩
  ·rcases Bool.eq_false_or_eq_true ((decide ((e.op : Int) = 2)) != (isWd e.nm)) with h3 | h3
   ·refine region_any (F := fun w => Mem w0 w [.row b1 36 [.int .i64 e.op, .int .i64 e.num, Str e.nm, .slice e.A e.ks.length e.c]]) hK [some (pA b1 0), some (.int .i64 e.op), some (.int .i64 (kidsI e.op)), some (pA b1 3), some (.slice e.A e.ks.length e.c), some (.int .i64 ((e.ks.length : Nat) : Int)), sF, sF, some (pA b1 0), some (.int .i64 e.op), some (.bool (decide ((e.op : Int) = 2))), some (pA b1 2), some (Str e.nm), some (.bool (isWd e.nm)), sT, sT, sT, sU, sU, sU, sU, sU, sU, sU, sU, sT, sT, sU, sU, sU, sT, sT, sU, sU, sU, sU, sU, sU, sU, sU, sT] 41 (fun _ _ hb hm => hm.go hb) hM (by kernel_rfl) (by kernel_rfl) ?_ [(44, .bool true), (2, .bool false), (1, pA b1 0), (0, .agg #[.int .i64 e.op, .int .i64 e.num, Str e.nm, .slice e.A e.ks.length e.c])] (by kernel_rfl) fun a w hK hM => ?_
    iterate 41 refine ⟨?_, ?_⟩
    trivial
    ·exact .val _ rfl (by kernel_rfl) fun _ _ => by kernel_rfl
    ·exact .val _ rfl (by kernel_rfl) fun _ h => run_loadE rfl rfl ((h.row 0 rfl).cells 0 1) (by kernel_rfl)
    ·exact .call _ #[.int .i64 e.op] (.int .i64 (kidsI e.op)) rfl (by kernel_rfl) (fun w => (run_callE en_cantileverref03_kids rfl rfl (by kernel_rfl))) (fun w hM => ref_kids e.op _)
    ·exact .val _ rfl (by kernel_rfl) fun _ _ => by kernel_rfl
    ·exact .val _ rfl (by kernel_rfl) fun _ h => run_loadE rfl rfl ((h.row 0 rfl).cells 3 1) (by kernel_rfl)
    ·exact .val _ rfl (by kernel_rfl) fun _ _ => by kernel_rfl
    ·exact .val _ rfl (by kernel_rfl) (fun w hM => (okBool (by kernel_rfl) h2))
    iterate 2 exact .val _ rfl (by kernel_rfl) fun _ _ => by kernel_rfl
    ·exact .val _ rfl (by kernel_rfl) fun _ h => run_loadE rfl rfl ((h.row 0 rfl).cells 0 1) (by kernel_rfl)
    iterate 2 exact .val _ rfl (by kernel_rfl) fun _ _ => by kernel_rfl
    ·exact .val _ rfl (by kernel_rfl) fun _ h => run_loadE rfl rfl ((h.row 0 rfl).cells 2 1) (by kernel_rfl)
    ·exact .call _ #[Str e.nm] (.bool (isWd e.nm)) rfl (by kernel_rfl) (fun w => (run_callE en_cantileverref03_Word rfl rfl (by kernel_rfl))) (fun w hM => ref_Wd e.nm _ (by omega))
    ·exact .val _ rfl (by kernel_rfl) (fun w hM => (okBool (run_neB rfl rfl rfl) h3))
    iterate 2 exact .val _ rfl (by kernel_rfl) fun _ _ => by kernel_rfl
    iterate 8 exact .skip rfl (by kernel_rfl)
    iterate 2 exact .val _ rfl (by kernel_rfl) fun _ _ => by kernel_rfl
    iterate 3 exact .skip rfl (by kernel_rfl)
    iterate 2 exact .val _ rfl (by kernel_rfl) fun _ _ => by kernel_rfl
    iterate 8 exact .skip rfl (by kernel_rfl)
    ·exact .val _ rfl (by kernel_rfl) fun _ _ => by kernel_rfl
    have e44 : exBad e = true := by unfold exBad; rw [h2, h3]; rfl
    exact ⟨rfl, ⟨(by rw [e44]; exact hK.sub ⟨rfl, rfl, rfl, rfl, trivial⟩), hM⟩⟩
   ·rcases Bool.eq_false_or_eq_true (!(decide ((e.op : Int) = 2))) with h4 | h4
    ·rcases Bool.eq_false_or_eq_true (!(decide (e.nm = []))) with h5 | h5
     ·refine region_any (F := fun w => Mem w0 w [.row b1 36 [.int .i64 e.op, .int .i64 e.num, Str e.nm, .slice e.A e.ks.length e.c]]) hK [some (pA b1 0), some (.int .i64 e.op), some (.int .i64 (kidsI e.op)), some (pA b1 3), some (.slice e.A e.ks.length e.c), some (.int .i64 ((e.ks.length : Nat) : Int)), sF, sF, some (pA b1 0), some (.int .i64 e.op), some (.bool (decide ((e.op : Int) = 2))), some (pA b1 2), some (Str e.nm), some (.bool (isWd e.nm)), sF, sF, sF, some (pA b1 0), some (.int .i64 e.op), sT, sT, some (pA b1 2), some (Str e.nm), sT, sT, sT, sT, sU, sU, sU, sT, sT, sU, sU, sU, sU, sU, sU, sU, sU, sT] 41 (fun _ _ hb hm => hm.go hb) hM (by kernel_rfl) (by kernel_rfl) ?_ [(44, .bool true), (2, .bool false), (1, pA b1 0), (0, .agg #[.int .i64 e.op, .int .i64 e.num, Str e.nm, .slice e.A e.ks.length e.c])] (by kernel_rfl) fun a w hK hM => ?_
      iterate 41 refine ⟨?_, ?_⟩
      trivial
      ·exact .val _ rfl (by kernel_rfl) fun _ _ => by kernel_rfl
      ·exact .val _ rfl (by kernel_rfl) fun _ h => run_loadE rfl rfl ((h.row 0 rfl).cells 0 1) (by kernel_rfl)
      ·exact .call _ #[.int .i64 e.op] (.int .i64 (kidsI e.op)) rfl (by kernel_rfl) (fun w => (run_callE en_cantileverref03_kids rfl rfl (by kernel_rfl))) (fun w hM => ref_kids e.op _)
      ·exact .val _ rfl (by kernel_rfl) fun _ _ => by kernel_rfl
      ·exact .val _ rfl (by kernel_rfl) fun _ h => run_loadE rfl rfl ((h.row 0 rfl).cells 3 1) (by kernel_rfl)
      ·exact .val _ rfl (by kernel_rfl) fun _ _ => by kernel_rfl
      ·exact .val _ rfl (by kernel_rfl) (fun w hM => (okBool (by kernel_rfl) h2))
      iterate 2 exact .val _ rfl (by kernel_rfl) fun _ _ => by kernel_rfl
      ·exact .val _ rfl (by kernel_rfl) fun _ h => run_loadE rfl rfl ((h.row 0 rfl).cells 0 1) (by kernel_rfl)
      iterate 2 exact .val _ rfl (by kernel_rfl) fun _ _ => by kernel_rfl
      ·exact .val _ rfl (by kernel_rfl) fun _ h => run_loadE rfl rfl ((h.row 0 rfl).cells 2 1) (by kernel_rfl)
      ·exact .call _ #[Str e.nm] (.bool (isWd e.nm)) rfl (by kernel_rfl) (fun w => (run_callE en_cantileverref03_Word rfl rfl (by kernel_rfl))) (fun w hM => ref_Wd e.nm _ (by omega))
      ·exact .val _ rfl (by kernel_rfl) (fun w hM => (okBool (run_neB rfl rfl rfl) h3))
      iterate 3 exact .val _ rfl (by kernel_rfl) fun _ _ => by kernel_rfl
      ·exact .val _ rfl (by kernel_rfl) fun _ h => run_loadE rfl rfl ((h.row 0 rfl).cells 0 1) (by kernel_rfl)
      ·exact .val _ rfl (by kernel_rfl) (fun w hM => (okBool (by kernel_rfl) h4))
      iterate 2 exact .val _ rfl (by kernel_rfl) fun _ _ => by kernel_rfl
      ·exact .val _ rfl (by kernel_rfl) fun _ h => run_loadE rfl rfl ((h.row 0 rfl).cells 2 1) (by kernel_rfl)
      ·exact .val _ rfl (by kernel_rfl) (fun w hM => (okBool (run_neS rfl rfl rfl) h5))
      iterate 3 exact .val _ rfl (by kernel_rfl) fun _ _ => by kernel_rfl
      iterate 3 exact .skip rfl (by kernel_rfl)
      iterate 2 exact .val _ rfl (by kernel_rfl) fun _ _ => by kernel_rfl
      iterate 8 exact .skip rfl (by kernel_rfl)
      ·exact .val _ rfl (by kernel_rfl) fun _ _ => by kernel_rfl
      have e44 : exBad e = true := by unfold exBad; rw [h2, h3, h4, h5]; rfl
      exact ⟨rfl, ⟨(by rw [e44]; exact hK.sub ⟨rfl, rfl, rfl, rfl, trivial⟩), hM⟩⟩
     ·by_cases h6 : (e.num : Int) < 0
      ·refine region_any (F := fun w => Mem w0 w [.row b1 36 [.int .i64 e.op, .int .i64 e.num, Str e.nm, .slice e.A e.ks.length e.c]]) hK [some (pA b1 0), some (.int .i64 e.op), some (.int .i64 (kidsI e.op)), some (pA b1 3), some (.slice e.A e.ks.length e.c), some (.int .i64 ((e.ks.length : Nat) : Int)), sF, sF, some (pA b1 0), some (.int .i64 e.op), some (.bool (decide ((e.op : Int) = 2))), some (pA b1 2), some (Str e.nm), some (.bool (isWd e.nm)), sF, sF, sF, some (pA b1 0), some (.int .i64 e.op), sT, sT, some (pA b1 2), some (Str e.nm), sF, sF, sF, sF, some (pA b1 1), some (.int .i64 e.num), sT, sT, sT, sU, sU, sU, sU, sU, sU, sU, sU, sT] 41 (fun _ _ hb hm => hm.go hb) hM (by kernel_rfl) (by kernel_rfl) ?_ [(44, .bool true), (2, .bool false), (1, pA b1 0), (0, .agg #[.int .i64 e.op, .int .i64 e.num, Str e.nm, .slice e.A e.ks.length e.c])] (by kernel_rfl) fun a w hK hM => ?_
       iterate 41 refine ⟨?_, ?_⟩
       trivial
       ·exact .val _ rfl (by kernel_rfl) fun _ _ => by kernel_rfl
       ·exact .val _ rfl (by kernel_rfl) fun _ h => run_loadE rfl rfl ((h.row 0 rfl).cells 0 1) (by kernel_rfl)
       ·exact .call _ #[.int .i64 e.op] (.int .i64 (kidsI e.op)) rfl (by kernel_rfl) (fun w => (run_callE en_cantileverref03_kids rfl rfl (by kernel_rfl))) (fun w hM => ref_kids e.op _)
       ·exact .val _ rfl (by kernel_rfl) fun _ _ => by kernel_rfl
       ·exact .val _ rfl (by kernel_rfl) fun _ h => run_loadE rfl rfl ((h.row 0 rfl).cells 3 1) (by kernel_rfl)
       ·exact .val _ rfl (by kernel_rfl) fun _ _ => by kernel_rfl
       ·exact .val _ rfl (by kernel_rfl) (fun w hM => (okBool (by kernel_rfl) h2))
       iterate 2 exact .val _ rfl (by kernel_rfl) fun _ _ => by kernel_rfl
       ·exact .val _ rfl (by kernel_rfl) fun _ h => run_loadE rfl rfl ((h.row 0 rfl).cells 0 1) (by kernel_rfl)
       iterate 2 exact .val _ rfl (by kernel_rfl) fun _ _ => by kernel_rfl
       ·exact .val _ rfl (by kernel_rfl) fun _ h => run_loadE rfl rfl ((h.row 0 rfl).cells 2 1) (by kernel_rfl)
       ·exact .call _ #[Str e.nm] (.bool (isWd e.nm)) rfl (by kernel_rfl) (fun w => (run_callE en_cantileverref03_Word rfl rfl (by kernel_rfl))) (fun w hM => ref_Wd e.nm _ (by omega))
       ·exact .val _ rfl (by kernel_rfl) (fun w hM => (okBool (run_neB rfl rfl rfl) h3))
       iterate 3 exact .val _ rfl (by kernel_rfl) fun _ _ => by kernel_rfl
       ·exact .val _ rfl (by kernel_rfl) fun _ h => run_loadE rfl rfl ((h.row 0 rfl).cells 0 1) (by kernel_rfl)
       ·exact .val _ rfl (by kernel_rfl) (fun w hM => (okBool (by kernel_rfl) h4))
       iterate 2 exact .val _ rfl (by kernel_rfl) fun _ _ => by kernel_rfl
       ·exact .val _ rfl (by kernel_rfl) fun _ h => run_loadE rfl rfl ((h.row 0 rfl).cells 2 1) (by kernel_rfl)
       ·exact .val _ rfl (by kernel_rfl) (fun w hM => (okBool (run_neS rfl rfl rfl) h5))
       iterate 4 exact .val _ rfl (by kernel_rfl) fun _ _ => by kernel_rfl
       ·exact .val _ rfl (by kernel_rfl) fun _ h => run_loadE rfl rfl ((h.row 0 rfl).cells 1 1) (by kernel_rfl)
       ·exact .val _ rfl (by kernel_rfl) (fun w hM => (okBool (by kernel_rfl) (decide_eq_true h6)))
       iterate 2 exact .val _ rfl (by kernel_rfl) fun _ _ => by kernel_rfl
       iterate 8 exact .skip rfl (by kernel_rfl)
       ·exact .val _ rfl (by kernel_rfl) fun _ _ => by kernel_rfl
       have e44 : exBad e = true := by unfold exBad; rw [h2, h3, h4, h5, (decide_eq_true h6)]; rfl
       exact ⟨rfl, ⟨(by rw [e44]; exact hK.sub ⟨rfl, rfl, rfl, rfl, trivial⟩), hM⟩⟩
      ·rcases Bool.eq_false_or_eq_true (!(decide ((e.op : Int) = 1))) with h7 | h7
       ·rcases Bool.eq_false_or_eq_true (!(decide ((e.num : Int) = 0))) with h8 | h8
        ·refine region_any (F := fun w => Mem w0 w [.row b1 36 [.int .i64 e.op, .int .i64 e.num, Str e.nm, .slice e.A e.ks.length e.c]]) hK [some (pA b1 0), some (.int .i64 e.op), some (.int .i64 (kidsI e.op)), some (pA b1 3), some (.slice e.A e.ks.length e.c), some (.int .i64 ((e.ks.length : Nat) : Int)), sF, sF, some (pA b1 0), some (.int .i64 e.op), some (.bool (decide ((e.op : Int) = 2))), some (pA b1 2), some (Str e.nm), some (.bool (isWd e.nm)), sF, sF, sF, some (pA b1 0), some (.int .i64 e.op), sT, sT, some (pA b1 2), some (Str e.nm), sF, sF, sF, sF, some (pA b1 1), some (.int .i64 e.num), sF, sF, sF, some (pA b1 0), some (.int .i64 e.op), sT, sT, some (pA b1 1), some (.int .i64 e.num), sT, sT, sT] 41 (fun _ _ hb hm => hm.go hb) hM (by kernel_rfl) (by kernel_rfl) ?_ [(44, .bool true), (2, .bool false), (1, pA b1 0), (0, .agg #[.int .i64 e.op, .int .i64 e.num, Str e.nm, .slice e.A e.ks.length e.c])] (by kernel_rfl) fun a w hK hM => ?_
         iterate 41 refine ⟨?_, ?_⟩
         trivial
         ·exact .val _ rfl (by kernel_rfl) fun _ _ => by kernel_rfl
         ·exact .val _ rfl (by kernel_rfl) fun _ h => run_loadE rfl rfl ((h.row 0 rfl).cells 0 1) (by kernel_rfl)
         ·exact .call _ #[.int .i64 e.op] (.int .i64 (kidsI e.op)) rfl (by kernel_rfl) (fun w => (run_callE en_cantileverref03_kids rfl rfl (by kernel_rfl))) (fun w hM => ref_kids e.op _)
         ·exact .val _ rfl (by kernel_rfl) fun _ _ => by kernel_rfl
         ·exact .val _ rfl (by kernel_rfl) fun _ h => run_loadE rfl rfl ((h.row 0 rfl).cells 3 1) (by kernel_rfl)
         ·exact .val _ rfl (by kernel_rfl) fun _ _ => by kernel_rfl
         ·exact .val _ rfl (by kernel_rfl) (fun w hM => (okBool (by kernel_rfl) h2))
         iterate 2 exact .val _ rfl (by kernel_rfl) fun _ _ => by kernel_rfl
         ·exact .val _ rfl (by kernel_rfl) fun _ h => run_loadE rfl rfl ((h.row 0 rfl).cells 0 1) (by kernel_rfl)
         iterate 2 exact .val _ rfl (by kernel_rfl) fun _ _ => by kernel_rfl
         ·exact .val _ rfl (by kernel_rfl) fun _ h => run_loadE rfl rfl ((h.row 0 rfl).cells 2 1) (by kernel_rfl)
         ·exact .call _ #[Str e.nm] (.bool (isWd e.nm)) rfl (by kernel_rfl) (fun w => (run_callE en_cantileverref03_Word rfl rfl (by kernel_rfl))) (fun w hM => ref_Wd e.nm _ (by omega))
         ·exact .val _ rfl (by kernel_rfl) (fun w hM => (okBool (run_neB rfl rfl rfl) h3))
         iterate 3 exact .val _ rfl (by kernel_rfl) fun _ _ => by kernel_rfl
         ·exact .val _ rfl (by kernel_rfl) fun _ h => run_loadE rfl rfl ((h.row 0 rfl).cells 0 1) (by kernel_rfl)
         ·exact .val _ rfl (by kernel_rfl) (fun w hM => (okBool (by kernel_rfl) h4))
         iterate 2 exact .val _ rfl (by kernel_rfl) fun _ _ => by kernel_rfl
         ·exact .val _ rfl (by kernel_rfl) fun _ h => run_loadE rfl rfl ((h.row 0 rfl).cells 2 1) (by kernel_rfl)
         ·exact .val _ rfl (by kernel_rfl) (fun w hM => (okBool (run_neS rfl rfl rfl) h5))
         iterate 4 exact .val _ rfl (by kernel_rfl) fun _ _ => by kernel_rfl
         ·exact .val _ rfl (by kernel_rfl) fun _ h => run_loadE rfl rfl ((h.row 0 rfl).cells 1 1) (by kernel_rfl)
         ·exact .val _ rfl (by kernel_rfl) (fun w hM => (okBool (by kernel_rfl) (decide_eq_false h6)))
         iterate 3 exact .val _ rfl (by kernel_rfl) fun _ _ => by kernel_rfl
         ·exact .val _ rfl (by kernel_rfl) fun _ h => run_loadE rfl rfl ((h.row 0 rfl).cells 0 1) (by kernel_rfl)
         ·exact .val _ rfl (by kernel_rfl) (fun w hM => (okBool (by kernel_rfl) h7))
         iterate 2 exact .val _ rfl (by kernel_rfl) fun _ _ => by kernel_rfl
         ·exact .val _ rfl (by kernel_rfl) fun _ h => run_loadE rfl rfl ((h.row 0 rfl).cells 1 1) (by kernel_rfl)
         ·exact .val _ rfl (by kernel_rfl) (fun w hM => (okBool (by kernel_rfl) h8))
         iterate 2 exact .val _ rfl (by kernel_rfl) fun _ _ => by kernel_rfl
         have e44 : exBad e = true := by unfold exBad; rw [h2, h3, h4, h5, (decide_eq_false h6), h7, h8]; rfl
         exact ⟨rfl, ⟨(by rw [e44]; exact hK.sub ⟨rfl, rfl, rfl, rfl, trivial⟩), hM⟩⟩
        ·refine region_any (F := fun w => Mem w0 w [.row b1 36 [.int .i64 e.op, .int .i64 e.num, Str e.nm, .slice e.A e.ks.length e.c]]) hK [some (pA b1 0), some (.int .i64 e.op), some (.int .i64 (kidsI e.op)), some (pA b1 3), some (.slice e.A e.ks.length e.c), some (.int .i64 ((e.ks.length : Nat) : Int)), sF, sF, some (pA b1 0), some (.int .i64 e.op), some (.bool (decide ((e.op : Int) = 2))), some (pA b1 2), some (Str e.nm), some (.bool (isWd e.nm)), sF, sF, sF, some (pA b1 0), some (.int .i64 e.op), sT, sT, some (pA b1 2), some (Str e.nm), sF, sF, sF, sF, some (pA b1 1), some (.int .i64 e.num), sF, sF, sF, some (pA b1 0), some (.int .i64 e.op), sT, sT, some (pA b1 1), some (.int .i64 e.num), sF, sF, sF] 41 (fun _ _ hb hm => hm.go hb) hM (by kernel_rfl) (by kernel_rfl) ?_ [(44, .bool false), (2, .bool false), (1, pA b1 0), (0, .agg #[.int .i64 e.op, .int .i64 e.num, Str e.nm, .slice e.A e.ks.length e.c])] (by kernel_rfl) fun a w hK hM => ?_
         iterate 41 refine ⟨?_, ?_⟩
         trivial
         ·exact .val _ rfl (by kernel_rfl) fun _ _ => by kernel_rfl
         ·exact .val _ rfl (by kernel_rfl) fun _ h => run_loadE rfl rfl ((h.row 0 rfl).cells 0 1) (by kernel_rfl)
         ·exact .call _ #[.int .i64 e.op] (.int .i64 (kidsI e.op)) rfl (by kernel_rfl) (fun w => (run_callE en_cantileverref03_kids rfl rfl (by kernel_rfl))) (fun w hM => ref_kids e.op _)
         ·exact .val _ rfl (by kernel_rfl) fun _ _ => by kernel_rfl
         ·exact .val _ rfl (by kernel_rfl) fun _ h => run_loadE rfl rfl ((h.row 0 rfl).cells 3 1) (by kernel_rfl)
         ·exact .val _ rfl (by kernel_rfl) fun _ _ => by kernel_rfl
         ·exact .val _ rfl (by kernel_rfl) (fun w hM => (okBool (by kernel_rfl) h2))
         iterate 2 exact .val _ rfl (by kernel_rfl) fun _ _ => by kernel_rfl
         ·exact .val _ rfl (by kernel_rfl) fun _ h => run_loadE rfl rfl ((h.row 0 rfl).cells 0 1) (by kernel_rfl)
         iterate 2 exact .val _ rfl (by kernel_rfl) fun _ _ => by kernel_rfl
         ·exact .val _ rfl (by kernel_rfl) fun _ h => run_loadE rfl rfl ((h.row 0 rfl).cells 2 1) (by kernel_rfl)
         ·exact .call _ #[Str e.nm] (.bool (isWd e.nm)) rfl (by kernel_rfl) (fun w => (run_callE en_cantileverref03_Word rfl rfl (by kernel_rfl))) (fun w hM => ref_Wd e.nm _ (by omega))
         ·exact .val _ rfl (by kernel_rfl) (fun w hM => (okBool (run_neB rfl rfl rfl) h3))
         iterate 3 exact .val _ rfl (by kernel_rfl) fun _ _ => by kernel_rfl
         ·exact .val _ rfl (by kernel_rfl) fun _ h => run_loadE rfl rfl ((h.row 0 rfl).cells 0 1) (by kernel_rfl)
         ·exact .val _ rfl (by kernel_rfl) (fun w hM => (okBool (by kernel_rfl) h4))
         iterate 2 exact .val _ rfl (by kernel_rfl) fun _ _ => by kernel_rfl
         ·exact .val _ rfl (by kernel_rfl) fun _ h => run_loadE rfl rfl ((h.row 0 rfl).cells 2 1) (by kernel_rfl)
         ·exact .val _ rfl (by kernel_rfl) (fun w hM => (okBool (run_neS rfl rfl rfl) h5))
         iterate 4 exact .val _ rfl (by kernel_rfl) fun _ _ => by kernel_rfl
         ·exact .val _ rfl (by kernel_rfl) fun _ h => run_loadE rfl rfl ((h.row 0 rfl).cells 1 1) (by kernel_rfl)
         ·exact .val _ rfl (by kernel_rfl) (fun w hM => (okBool (by kernel_rfl) (decide_eq_false h6)))
         iterate 3 exact .val _ rfl (by kernel_rfl) fun _ _ => by kernel_rfl
         ·exact .val _ rfl (by kernel_rfl) fun _ h => run_loadE rfl rfl ((h.row 0 rfl).cells 0 1) (by kernel_rfl)
         ·exact .val _ rfl (by kernel_rfl) (fun w hM => (okBool (by kernel_rfl) h7))
         iterate 2 exact .val _ rfl (by kernel_rfl) fun _ _ => by kernel_rfl
         ·exact .val _ rfl (by kernel_rfl) fun _ h => run_loadE rfl rfl ((h.row 0 rfl).cells 1 1) (by kernel_rfl)
         ·exact .val _ rfl (by kernel_rfl) (fun w hM => (okBool (by kernel_rfl) h8))
         iterate 2 exact .val _ rfl (by kernel_rfl) fun _ _ => by kernel_rfl
         have e44 : exBad e = false := by unfold exBad; rw [h2, h3, h4, h5, (decide_eq_false h6), h7, h8]; rfl
         exact ⟨rfl, ⟨(by rw [e44]; exact hK.sub ⟨rfl, rfl, rfl, rfl, trivial⟩), hM⟩⟩
       ·refine region_any (F := fun w => Mem w0 w [.row b1 36 [.int .i64 e.op, .int .i64 e.num, Str e.nm, .slice e.A e.ks.length e.c]]) hK [some (pA b1 0), some (.int .i64 e.op), some (.int .i64 (kidsI e.op)), some (pA b1 3), some (.slice e.A e.ks.length e.c), some (.int .i64 ((e.ks.length : Nat) : Int)), sF, sF, some (pA b1 0), some (.int .i64 e.op), some (.bool (decide ((e.op : Int) = 2))), some (pA b1 2), some (Str e.nm), some (.bool (isWd e.nm)), sF, sF, sF, some (pA b1 0), some (.int .i64 e.op), sT, sT, some (pA b1 2), some (Str e.nm), sF, sF, sF, sF, some (pA b1 1), some (.int .i64 e.num), sF, sF, sF, some (pA b1 0), some (.int .i64 e.op), sF, sF, sU, sU, sU, sF, sF] 41 (fun _ _ hb hm => hm.go hb) hM (by kernel_rfl) (by kernel_rfl) ?_ [(44, .bool false), (2, .bool false), (1, pA b1 0), (0, .agg #[.int .i64 e.op, .int .i64 e.num, Str e.nm, .slice e.A e.ks.length e.c])] (by kernel_rfl) fun a w hK hM => ?_
        iterate 41 refine ⟨?_, ?_⟩
        trivial
        ·exact .val _ rfl (by kernel_rfl) fun _ _ => by kernel_rfl
        ·exact .val _ rfl (by kernel_rfl) fun _ h => run_loadE rfl rfl ((h.row 0 rfl).cells 0 1) (by kernel_rfl)
        ·exact .call _ #[.int .i64 e.op] (.int .i64 (kidsI e.op)) rfl (by kernel_rfl) (fun w => (run_callE en_cantileverref03_kids rfl rfl (by kernel_rfl))) (fun w hM => ref_kids e.op _)
        ·exact .val _ rfl (by kernel_rfl) fun _ _ => by kernel_rfl
        ·exact .val _ rfl (by kernel_rfl) fun _ h => run_loadE rfl rfl ((h.row 0 rfl).cells 3 1) (by kernel_rfl)
        ·exact .val _ rfl (by kernel_rfl) fun _ _ => by kernel_rfl
        ·exact .val _ rfl (by kernel_rfl) (fun w hM => (okBool (by kernel_rfl) h2))
        iterate 2 exact .val _ rfl (by kernel_rfl) fun _ _ => by kernel_rfl
        ·exact .val _ rfl (by kernel_rfl) fun _ h => run_loadE rfl rfl ((h.row 0 rfl).cells 0 1) (by kernel_rfl)
        iterate 2 exact .val _ rfl (by kernel_rfl) fun _ _ => by kernel_rfl
        ·exact .val _ rfl (by kernel_rfl) fun _ h => run_loadE rfl rfl ((h.row 0 rfl).cells 2 1) (by kernel_rfl)
        ·exact .call _ #[Str e.nm] (.bool (isWd e.nm)) rfl (by kernel_rfl) (fun w => (run_callE en_cantileverref03_Word rfl rfl (by kernel_rfl))) (fun w hM => ref_Wd e.nm _ (by omega))
        ·exact .val _ rfl (by kernel_rfl) (fun w hM => (okBool (run_neB rfl rfl rfl) h3))
        iterate 3 exact .val _ rfl (by kernel_rfl) fun _ _ => by kernel_rfl
        ·exact .val _ rfl (by kernel_rfl) fun _ h => run_loadE rfl rfl ((h.row 0 rfl).cells 0 1) (by kernel_rfl)
        ·exact .val _ rfl (by kernel_rfl) (fun w hM => (okBool (by kernel_rfl) h4))
        iterate 2 exact .val _ rfl (by kernel_rfl) fun _ _ => by kernel_rfl
        ·exact .val _ rfl (by kernel_rfl) fun _ h => run_loadE rfl rfl ((h.row 0 rfl).cells 2 1) (by kernel_rfl)
        ·exact .val _ rfl (by kernel_rfl) (fun w hM => (okBool (run_neS rfl rfl rfl) h5))
        iterate 4 exact .val _ rfl (by kernel_rfl) fun _ _ => by kernel_rfl
        ·exact .val _ rfl (by kernel_rfl) fun _ h => run_loadE rfl rfl ((h.row 0 rfl).cells 1 1) (by kernel_rfl)
        ·exact .val _ rfl (by kernel_rfl) (fun w hM => (okBool (by kernel_rfl) (decide_eq_false h6)))
        iterate 3 exact .val _ rfl (by kernel_rfl) fun _ _ => by kernel_rfl
        ·exact .val _ rfl (by kernel_rfl) fun _ h => run_loadE rfl rfl ((h.row 0 rfl).cells 0 1) (by kernel_rfl)
        ·exact .val _ rfl (by kernel_rfl) (fun w hM => (okBool (by kernel_rfl) h7))
        ·exact .val _ rfl (by kernel_rfl) fun _ _ => by kernel_rfl
        iterate 3 exact .skip rfl (by kernel_rfl)
        iterate 2 exact .val _ rfl (by kernel_rfl) fun _ _ => by kernel_rfl
        have e44 : exBad e = false := by unfold exBad; rw [h2, h3, h4, h5, (decide_eq_false h6), h7]; rfl
        exact ⟨rfl, ⟨(by rw [e44]; exact hK.sub ⟨rfl, rfl, rfl, rfl, trivial⟩), hM⟩⟩
    ·by_cases h9 : (e.num : Int) < 0
     ·refine region_any (F := fun w => Mem w0 w [.row b1 36 [.int .i64 e.op, .int .i64 e.num, Str e.nm, .slice e.A e.ks.length e.c]]) hK [some (pA b1 0), some (.int .i64 e.op), some (.int .i64 (kidsI e.op)), some (pA b1 3), some (.slice e.A e.ks.length e.c), some (.int .i64 ((e.ks.length : Nat) : Int)), sF, sF, some (pA b1 0), some (.int .i64 e.op), some (.bool (decide ((e.op : Int) = 2))), some (pA b1 2), some (Str e.nm), some (.bool (isWd e.nm)), sF, sF, sF, some (pA b1 0), some (.int .i64 e.op), sF, sF, sU, sU, sU, sF, sF, sF, some (pA b1 1), some (.int .i64 e.num), sT, sT, sT, sU, sU, sU, sU, sU, sU, sU, sU, sT] 41 (fun _ _ hb hm => hm.go hb) hM (by kernel_rfl) (by kernel_rfl) ?_ [(44, .bool true), (2, .bool false), (1, pA b1 0), (0, .agg #[.int .i64 e.op, .int .i64 e.num, Str e.nm, .slice e.A e.ks.length e.c])] (by kernel_rfl) fun a w hK hM => ?_
      iterate 41 refine ⟨?_, ?_⟩
      trivial
      ·exact .val _ rfl (by kernel_rfl) fun _ _ => by kernel_rfl
      ·exact .val _ rfl (by kernel_rfl) fun _ h => run_loadE rfl rfl ((h.row 0 rfl).cells 0 1) (by kernel_rfl)
      ·exact .call _ #[.int .i64 e.op] (.int .i64 (kidsI e.op)) rfl (by kernel_rfl) (fun w => (run_callE en_cantileverref03_kids rfl rfl (by kernel_rfl))) (fun w hM => ref_kids e.op _)
      ·exact .val _ rfl (by kernel_rfl) fun _ _ => by kernel_rfl
      ·exact .val _ rfl (by kernel_rfl) fun _ h => run_loadE rfl rfl ((h.row 0 rfl).cells 3 1) (by kernel_rfl)
      ·exact .val _ rfl (by kernel_rfl) fun _ _ => by kernel_rfl
      ·exact .val _ rfl (by kernel_rfl) (fun w hM => (okBool (by kernel_rfl) h2))
      iterate 2 exact .val _ rfl (by kernel_rfl) fun _ _ => by kernel_rfl
      ·exact .val _ rfl (by kernel_rfl) fun _ h => run_loadE rfl rfl ((h.row 0 rfl).cells 0 1) (by kernel_rfl)
      iterate 2 exact .val _ rfl (by kernel_rfl) fun _ _ => by kernel_rfl
      ·exact .val _ rfl (by kernel_rfl) fun _ h => run_loadE rfl rfl ((h.row 0 rfl).cells 2 1) (by kernel_rfl)
      ·exact .call _ #[Str e.nm] (.bool (isWd e.nm)) rfl (by kernel_rfl) (fun w => (run_callE en_cantileverref03_Word rfl rfl (by kernel_rfl))) (fun w hM => ref_Wd e.nm _ (by omega))
      ·exact .val _ rfl (by kernel_rfl) (fun w hM => (okBool (run_neB rfl rfl rfl) h3))
      iterate 3 exact .val _ rfl (by kernel_rfl) fun _ _ => by kernel_rfl
      ·exact .val _ rfl (by kernel_rfl) fun _ h => run_loadE rfl rfl ((h.row 0 rfl).cells 0 1) (by kernel_rfl)
      ·exact .val _ rfl (by kernel_rfl) (fun w hM => (okBool (by kernel_rfl) h4))
      ·exact .val _ rfl (by kernel_rfl) fun _ _ => by kernel_rfl
      iterate 3 exact .skip rfl (by kernel_rfl)
      iterate 4 exact .val _ rfl (by kernel_rfl) fun _ _ => by kernel_rfl
      ·exact .val _ rfl (by kernel_rfl) fun _ h => run_loadE rfl rfl ((h.row 0 rfl).cells 1 1) (by kernel_rfl)
      ·exact .val _ rfl (by kernel_rfl) (fun w hM => (okBool (by kernel_rfl) (decide_eq_true h9)))
      iterate 2 exact .val _ rfl (by kernel_rfl) fun _ _ => by kernel_rfl
      iterate 8 exact .skip rfl (by kernel_rfl)
      ·exact .val _ rfl (by kernel_rfl) fun _ _ => by kernel_rfl
      have e44 : exBad e = true := by unfold exBad; rw [h2, h3, h4, (decide_eq_true h9)]; rfl
      exact ⟨rfl, ⟨(by rw [e44]; exact hK.sub ⟨rfl, rfl, rfl, rfl, trivial⟩), hM⟩⟩
     ·rcases Bool.eq_false_or_eq_true (!(decide ((e.op : Int) = 1))) with h10 | h10
      ·rcases Bool.eq_false_or_eq_true (!(decide ((e.num : Int) = 0))) with h11 | h11
       ·refine region_any (F := fun w => Mem w0 w [.row b1 36 [.int .i64 e.op, .int .i64 e.num, Str e.nm, .slice e.A e.ks.length e.c]]) hK [some (pA b1 0), some (.int .i64 e.op), some (.int .i64 (kidsI e.op)), some (pA b1 3), some (.slice e.A e.ks.length e.c), some (.int .i64 ((e.ks.length : Nat) : Int)), sF, sF, some (pA b1 0), some (.int .i64 e.op), some (.bool (decide ((e.op : Int) = 2))), some (pA b1 2), some (Str e.nm), some (.bool (isWd e.nm)), sF, sF, sF, some (pA b1 0), some (.int .i64 e.op), sF, sF, sU, sU, sU, sF, sF, sF, some (pA b1 1), some (.int .i64 e.num), sF, sF, sF, some (pA b1 0), some (.int .i64 e.op), sT, sT, some (pA b1 1), some (.int .i64 e.num), sT, sT, sT] 41 (fun _ _ hb hm => hm.go hb) hM (by kernel_rfl) (by kernel_rfl) ?_ [(44, .bool true), (2, .bool false), (1, pA b1 0), (0, .agg #[.int .i64 e.op, .int .i64 e.num, Str e.nm, .slice e.A e.ks.length e.c])] (by kernel_rfl) fun a w hK hM => ?_
        iterate 41 refine ⟨?_, ?_⟩
        trivial
        ·exact .val _ rfl (by kernel_rfl) fun _ _ => by kernel_rfl
        ·exact .val _ rfl (by kernel_rfl) fun _ h => run_loadE rfl rfl ((h.row 0 rfl).cells 0 1) (by kernel_rfl)
        ·exact .call _ #[.int .i64 e.op] (.int .i64 (kidsI e.op)) rfl (by kernel_rfl) (fun w => (run_callE en_cantileverref03_kids rfl rfl (by kernel_rfl))) (fun w hM => ref_kids e.op _)
        ·exact .val _ rfl (by kernel_rfl) fun _ _ => by kernel_rfl
        ·exact .val _ rfl (by kernel_rfl) fun _ h => run_loadE rfl rfl ((h.row 0 rfl).cells 3 1) (by kernel_rfl)
        ·exact .val _ rfl (by kernel_rfl) fun _ _ => by kernel_rfl
        ·exact .val _ rfl (by kernel_rfl) (fun w hM => (okBool (by kernel_rfl) h2))
        iterate 2 exact .val _ rfl (by kernel_rfl) fun _ _ => by kernel_rfl
        ·exact .val _ rfl (by kernel_rfl) fun _ h => run_loadE rfl rfl ((h.row 0 rfl).cells 0 1) (by kernel_rfl)
        iterate 2 exact .val _ rfl (by kernel_rfl) fun _ _ => by kernel_rfl
        ·exact .val _ rfl (by kernel_rfl) fun _ h => run_loadE rfl rfl ((h.row 0 rfl).cells 2 1) (by kernel_rfl)
        ·exact .call _ #[Str e.nm] (.bool (isWd e.nm)) rfl (by kernel_rfl) (fun w => (run_callE en_cantileverref03_Word rfl rfl (by kernel_rfl))) (fun w hM => ref_Wd e.nm _ (by omega))
        ·exact .val _ rfl (by kernel_rfl) (fun w hM => (okBool (run_neB rfl rfl rfl) h3))
        iterate 3 exact .val _ rfl (by kernel_rfl) fun _ _ => by kernel_rfl
        ·exact .val _ rfl (by kernel_rfl) fun _ h => run_loadE rfl rfl ((h.row 0 rfl).cells 0 1) (by kernel_rfl)
        ·exact .val _ rfl (by kernel_rfl) (fun w hM => (okBool (by kernel_rfl) h4))
        ·exact .val _ rfl (by kernel_rfl) fun _ _ => by kernel_rfl
        iterate 3 exact .skip rfl (by kernel_rfl)
        iterate 4 exact .val _ rfl (by kernel_rfl) fun _ _ => by kernel_rfl
        ·exact .val _ rfl (by kernel_rfl) fun _ h => run_loadE rfl rfl ((h.row 0 rfl).cells 1 1) (by kernel_rfl)
        ·exact .val _ rfl (by kernel_rfl) (fun w hM => (okBool (by kernel_rfl) (decide_eq_false h9)))
        iterate 3 exact .val _ rfl (by kernel_rfl) fun _ _ => by kernel_rfl
        ·exact .val _ rfl (by kernel_rfl) fun _ h => run_loadE rfl rfl ((h.row 0 rfl).cells 0 1) (by kernel_rfl)
        ·exact .val _ rfl (by kernel_rfl) (fun w hM => (okBool (by kernel_rfl) h10))
        iterate 2 exact .val _ rfl (by kernel_rfl) fun _ _ => by kernel_rfl
        ·exact .val _ rfl (by kernel_rfl) fun _ h => run_loadE rfl rfl ((h.row 0 rfl).cells 1 1) (by kernel_rfl)
        ·exact .val _ rfl (by kernel_rfl) (fun w hM => (okBool (by kernel_rfl) h11))
        iterate 2 exact .val _ rfl (by kernel_rfl) fun _ _ => by kernel_rfl
        have e44 : exBad e = true := by unfold exBad; rw [h2, h3, h4, (decide_eq_false h9), h10, h11]; rfl
        exact ⟨rfl, ⟨(by rw [e44]; exact hK.sub ⟨rfl, rfl, rfl, rfl, trivial⟩), hM⟩⟩
       ·refine region_any (F := fun w => Mem w0 w [.row b1 36 [.int .i64 e.op, .int .i64 e.num, Str e.nm, .slice e.A e.ks.length e.c]]) hK [some (pA b1 0), some (.int .i64 e.op), some (.int .i64 (kidsI e.op)), some (pA b1 3), some (.slice e.A e.ks.length e.c), some (.int .i64 ((e.ks.length : Nat) : Int)), sF, sF, some (pA b1 0), some (.int .i64 e.op), some (.bool (decide ((e.op : Int) = 2))), some (pA b1 2), some (Str e.nm), some (.bool (isWd e.nm)), sF, sF, sF, some (pA b1 0), some (.int .i64 e.op), sF, sF, sU, sU, sU, sF, sF, sF, some (pA b1 1), some (.int .i64 e.num), sF, sF, sF, some (pA b1 0), some (.int .i64 e.op), sT, sT, some (pA b1 1), some (.int .i64 e.num), sF, sF, sF] 41 (fun _ _ hb hm => hm.go hb) hM (by kernel_rfl) (by kernel_rfl) ?_ [(44, .bool false), (2, .bool false), (1, pA b1 0), (0, .agg #[.int .i64 e.op, .int .i64 e.num, Str e.nm, .slice e.A e.ks.length e.c])] (by kernel_rfl) fun a w hK hM => ?_
        iterate 41 refine ⟨?_, ?_⟩
        trivial
        ·exact .val _ rfl (by kernel_rfl) fun _ _ => by kernel_rfl
        ·exact .val _ rfl (by kernel_rfl) fun _ h => run_loadE rfl rfl ((h.row 0 rfl).cells 0 1) (by kernel_rfl)
        ·exact .call _ #[.int .i64 e.op] (.int .i64 (kidsI e.op)) rfl (by kernel_rfl) (fun w => (run_callE en_cantileverref03_kids rfl rfl (by kernel_rfl))) (fun w hM => ref_kids e.op _)
        ·exact .val _ rfl (by kernel_rfl) fun _ _ => by kernel_rfl
        ·exact .val _ rfl (by kernel_rfl) fun _ h => run_loadE rfl rfl ((h.row 0 rfl).cells 3 1) (by kernel_rfl)
        ·exact .val _ rfl (by kernel_rfl) fun _ _ => by kernel_rfl
        ·exact .val _ rfl (by kernel_rfl) (fun w hM => (okBool (by kernel_rfl) h2))
        iterate 2 exact .val _ rfl (by kernel_rfl) fun _ _ => by kernel_rfl
        ·exact .val _ rfl (by kernel_rfl) fun _ h => run_loadE rfl rfl ((h.row 0 rfl).cells 0 1) (by kernel_rfl)
        iterate 2 exact .val _ rfl (by kernel_rfl) fun _ _ => by kernel_rfl
        ·exact .val _ rfl (by kernel_rfl) fun _ h => run_loadE rfl rfl ((h.row 0 rfl).cells 2 1) (by kernel_rfl)
        ·exact .call _ #[Str e.nm] (.bool (isWd e.nm)) rfl (by kernel_rfl) (fun w => (run_callE en_cantileverref03_Word rfl rfl (by kernel_rfl))) (fun w hM => ref_Wd e.nm _ (by omega))
        ·exact .val _ rfl (by kernel_rfl) (fun w hM => (okBool (run_neB rfl rfl rfl) h3))
        iterate 3 exact .val _ rfl (by kernel_rfl) fun _ _ => by kernel_rfl
        ·exact .val _ rfl (by kernel_rfl) fun _ h => run_loadE rfl rfl ((h.row 0 rfl).cells 0 1) (by kernel_rfl)
        ·exact .val _ rfl (by kernel_rfl) (fun w hM => (okBool (by kernel_rfl) h4))
        ·exact .val _ rfl (by kernel_rfl) fun _ _ => by kernel_rfl
        iterate 3 exact .skip rfl (by kernel_rfl)
        iterate 4 exact .val _ rfl (by kernel_rfl) fun _ _ => by kernel_rfl
        ·exact .val _ rfl (by kernel_rfl) fun _ h => run_loadE rfl rfl ((h.row 0 rfl).cells 1 1) (by kernel_rfl)
        ·exact .val _ rfl (by kernel_rfl) (fun w hM => (okBool (by kernel_rfl) (decide_eq_false h9)))
        iterate 3 exact .val _ rfl (by kernel_rfl) fun _ _ => by kernel_rfl
        ·exact .val _ rfl (by kernel_rfl) fun _ h => run_loadE rfl rfl ((h.row 0 rfl).cells 0 1) (by kernel_rfl)
        ·exact .val _ rfl (by kernel_rfl) (fun w hM => (okBool (by kernel_rfl) h10))
        iterate 2 exact .val _ rfl (by kernel_rfl) fun _ _ => by kernel_rfl
        ·exact .val _ rfl (by kernel_rfl) fun _ h => run_loadE rfl rfl ((h.row 0 rfl).cells 1 1) (by kernel_rfl)
        ·exact .val _ rfl (by kernel_rfl) (fun w hM => (okBool (by kernel_rfl) h11))
        iterate 2 exact .val _ rfl (by kernel_rfl) fun _ _ => by kernel_rfl
        have e44 : exBad e = false := by unfold exBad; rw [h2, h3, h4, (decide_eq_false h9), h10, h11]; rfl
        exact ⟨rfl, ⟨(by rw [e44]; exact hK.sub ⟨rfl, rfl, rfl, rfl, trivial⟩), hM⟩⟩
      ·refine region_any (F := fun w => Mem w0 w [.row b1 36 [.int .i64 e.op, .int .i64 e.num, Str e.nm, .slice e.A e.ks.length e.c]]) hK [some (pA b1 0), some (.int .i64 e.op), some (.int .i64 (kidsI e.op)), some (pA b1 3), some (.slice e.A e.ks.length e.c), some (.int .i64 ((e.ks.length : Nat) : Int)), sF, sF, some (pA b1 0), some (.int .i64 e.op), some (.bool (decide ((e.op : Int) = 2))), some (pA b1 2), some (Str e.nm), some (.bool (isWd e.nm)), sF, sF, sF, some (pA b1 0), some (.int .i64 e.op), sF, sF, sU, sU, sU, sF, sF, sF, some (pA b1 1), some (.int .i64 e.num), sF, sF, sF, some (pA b1 0), some (.int .i64 e.op), sF, sF, sU, sU, sU, sF, sF] 41 (fun _ _ hb hm => hm.go hb) hM (by kernel_rfl) (by kernel_rfl) ?_ [(44, .bool false), (2, .bool false), (1, pA b1 0), (0, .agg #[.int .i64 e.op, .int .i64 e.num, Str e.nm, .slice e.A e.ks.length e.c])] (by kernel_rfl) fun a w hK hM => ?_
       iterate 41 refine ⟨?_, ?_⟩
       trivial
       ·exact .val _ rfl (by kernel_rfl) fun _ _ => by kernel_rfl
       ·exact .val _ rfl (by kernel_rfl) fun _ h => run_loadE rfl rfl ((h.row 0 rfl).cells 0 1) (by kernel_rfl)
       ·exact .call _ #[.int .i64 e.op] (.int .i64 (kidsI e.op)) rfl (by kernel_rfl) (fun w => (run_callE en_cantileverref03_kids rfl rfl (by kernel_rfl))) (fun w hM => ref_kids e.op _)
       ·exact .val _ rfl (by kernel_rfl) fun _ _ => by kernel_rfl
       ·exact .val _ rfl (by kernel_rfl) fun _ h => run_loadE rfl rfl ((h.row 0 rfl).cells 3 1) (by kernel_rfl)
       ·exact .val _ rfl (by kernel_rfl) fun _ _ => by kernel_rfl
       ·exact .val _ rfl (by kernel_rfl) (fun w hM => (okBool (by kernel_rfl) h2))
       iterate 2 exact .val _ rfl (by kernel_rfl) fun _ _ => by kernel_rfl
       ·exact .val _ rfl (by kernel_rfl) fun _ h => run_loadE rfl rfl ((h.row 0 rfl).cells 0 1) (by kernel_rfl)
       iterate 2 exact .val _ rfl (by kernel_rfl) fun _ _ => by kernel_rfl
       ·exact .val _ rfl (by kernel_rfl) fun _ h => run_loadE rfl rfl ((h.row 0 rfl).cells 2 1) (by kernel_rfl)
       ·exact .call _ #[Str e.nm] (.bool (isWd e.nm)) rfl (by kernel_rfl) (fun w => (run_callE en_cantileverref03_Word rfl rfl (by kernel_rfl))) (fun w hM => ref_Wd e.nm _ (by omega))
       ·exact .val _ rfl (by kernel_rfl) (fun w hM => (okBool (run_neB rfl rfl rfl) h3))
       iterate 3 exact .val _ rfl (by kernel_rfl) fun _ _ => by kernel_rfl
       ·exact .val _ rfl (by kernel_rfl) fun _ h => run_loadE rfl rfl ((h.row 0 rfl).cells 0 1) (by kernel_rfl)
       ·exact .val _ rfl (by kernel_rfl) (fun w hM => (okBool (by kernel_rfl) h4))
       ·exact .val _ rfl (by kernel_rfl) fun _ _ => by kernel_rfl
       iterate 3 exact .skip rfl (by kernel_rfl)
       iterate 4 exact .val _ rfl (by kernel_rfl) fun _ _ => by kernel_rfl
       ·exact .val _ rfl (by kernel_rfl) fun _ h => run_loadE rfl rfl ((h.row 0 rfl).cells 1 1) (by kernel_rfl)
       ·exact .val _ rfl (by kernel_rfl) (fun w hM => (okBool (by kernel_rfl) (decide_eq_false h9)))
       iterate 3 exact .val _ rfl (by kernel_rfl) fun _ _ => by kernel_rfl
       ·exact .val _ rfl (by kernel_rfl) fun _ h => run_loadE rfl rfl ((h.row 0 rfl).cells 0 1) (by kernel_rfl)
       ·exact .val _ rfl (by kernel_rfl) (fun w hM => (okBool (by kernel_rfl) h10))
       ·exact .val _ rfl (by kernel_rfl) fun _ _ => by kernel_rfl
       iterate 3 exact .skip rfl (by kernel_rfl)
       iterate 2 exact .val _ rfl (by kernel_rfl) fun _ _ => by kernel_rfl
       have e44 : exBad e = false := by unfold exBad; rw [h2, h3, h4, (decide_eq_false h9), h10]; rfl
       exact ⟨rfl, ⟨(by rw [e44]; exact hK.sub ⟨rfl, rfl, rfl, rfl, trivial⟩), hM⟩⟩
 rintro a w ⟨hK, hM⟩
 rcases Bool.eq_false_or_eq_true (exBad e) with h12 | h12
 ·refine wp_cond_true ((hK.get (v := (.bool (exBad e))) rfl).trans (congrArg Value.bool h12)) ?_
  refine wp_seq ?_
  refine region_go (lst := [0]) (by kernel_rfl) ?_
  refine stepP hK 2 (.bool false) (by kernel_rfl) (by kernel_rfl) fun a hK => ?_
  refine region_done hK [(2, .bool false), (44, .bool (exBad e)), (1, pA b1 0), (0, .agg #[.int .i64 e.op, .int .i64 e.num, Str e.nm, .slice e.A e.ks.length e.c])] ⟨rfl, rfl, rfl, rfl, trivial⟩ fun a hK => ?_
  refine wp_ret ?_
  exact ret_t hK rfl (u := (.bool false)) rfl (⟨by rw [ex_ok, h12]; rfl, hM.below⟩)
 ·refine wp_cond_false ((hK.get (v := (.bool (exBad e))) rfl).trans (congrArg Value.bool h12)) ?_
  refine wp_skip ?_
  refine wp_seq ?_
  refine wp_seq ?_
  refine region_go (lst := [0]) (by kernel_rfl) ?_
  refine stepP hK 3 (.int .i64 0) (by kernel_rfl) (by kernel_rfl) fun a hK => ?_
  refine region_done hK [(3, .int .i64 0), (44, .bool (exBad e)), (2, .bool false), (1, pA b1 0), (0, .agg #[.int .i64 e.op, .int .i64 e.num, Str e.nm, .slice e.A e.ks.length e.c])] ⟨rfl, rfl, rfl, rfl, rfl, trivial⟩ fun a hK => ?_
  refine wp_block ?_
  have hb := h12
  refine wp_loopX (fun x : Nat => [(44, .bool (exBad e)), (2, .bool false), (1, pA b1 0), (0, .agg #[.int .i64 e.op, .int .i64 e.num, Str e.nm, .slice e.A e.ks.length e.c]), (3, .int .i64 ((x : Nat) : Int))]) (fun x : Nat => [.row b1 36 [.int .i64 e.op, .int .i64 e.num, Str e.nm, .slice e.A e.ks.length e.c]]) (fun x : Nat => x ≤ e.ks.length ∧ exsOk (e.ks.drop x) = exsOk e.ks) (fun x : Nat => e.ks.length - x) 0 (hK.sub ⟨rfl, rfl, rfl, rfl, rfl, trivial⟩) hM ⟨Nat.zero_le _, rfl⟩ ?_
  rintro i a w hK hM hR
  replace hK : Knows a 59 [(44, .bool (exBad e)), (2, .bool false), (1, pA b1 0), (0, .agg #[.int .i64 e.op, .int .i64 e.num, Str e.nm, .slice e.A e.ks.length e.c]), (3, .int .i64 ((i : Nat) : Int))] := hK
  replace hM : Mem w0 w [.row b1 36 [.int .i64 e.op, .int .i64 e.num, Str e.nm, .slice e.A e.ks.length e.c]] := hM
  replace hR : i ≤ e.ks.length ∧ exsOk (e.ks.drop i) = exsOk e.ks := hR
  refine wp_seq ?_
  refine wp_seq ?_
  refine region_go (lst := [0, 1, 2, 3, 4]) (by kernel_rfl) ?_
  refine stepM hK 45 3 (by kernel_rfl) (.inl rfl) rfl fun a hK => ?_
  refine stepP hK 46 (pA b1 3) (by kernel_rfl) (by kernel_rfl) fun a hK => ?_
  refine stepLoad hK 47 (.slice e.A e.ks.length e.c) (by kernel_rfl) rfl rfl ((hM.row 0 rfl).cells 3 1) (by kernel_rfl) fun a hK => ?_
  refine stepP hK 48 (.int .i64 ((e.ks.length : Nat) : Int)) (by kernel_rfl) (by kernel_rfl) fun a hK => ?_
  by_cases h13 : (((i : Nat) : Int) : Int) < ((e.ks.length : Nat) : Int)
  ·refine stepP hK 49 (.bool true) (by kernel_rfl) (okBool (b := (decide ((((i : Nat) : Int) : Int) < ((e.ks.length : Nat) : Int)))) (by kernel_rfl) (decide_eq_true h13)) fun a hK => ?_
   refine region_done hK [(49, .bool true), (44, .bool (exBad e)), (2, .bool false), (1, pA b1 0), (0, .agg #[.int .i64 e.op, .int .i64 e.num, Str e.nm, .slice e.A e.ks.length e.c]), (3, .int .i64 ((i : Nat) : Int))] ⟨rfl, rfl, rfl, rfl, rfl, rfl, trivial⟩ fun a hK => ?_
   refine wp_cond_true (hK.get rfl) ?_
   refine wp_skip ?_
   refine wp_seq ?_
   refine wp_block ?_
   refine wp_seq ?_
   refine region_go (lst := [0, 1, 2, 3, 4, 5, 6]) (by kernel_rfl) ?_
   refine stepP hK 52 (pA b1 3) (by kernel_rfl) (by kernel_rfl) fun a hK => ?_
   refine stepLoad hK 53 (.slice e.A e.ks.length e.c) (by kernel_rfl) rfl rfl ((hM.row 0 rfl).cells 3 1) (by kernel_rfl) fun a hK => ?_
   refine stepM hK 54 3 (by kernel_rfl) (.inl rfl) rfl fun a hK => ?_
   obtain ⟨t14, ht14⟩ : ∃ t, e.ks[(i : Nat)]? = some t := ⟨_, List.getElem?_eq_getElem (by omega)⟩
   obtain ⟨⟨at14, At14, ct14⟩, et14⟩ := he.kids _ _ ht14; have nt14 := et14.len
   refine stepP hK 55 (.pointer (some (at14.add (i * 4)))) (by kernel_rfl) (run_ixA (k := i) (s := 4) rfl rfl At14 rfl Tryd.underlying27 (by kernel_rfl) (by omega)) fun a hK => ?_
   refine stepLoad hK 56 (.agg #[.int .i64 t14.op, .int .i64 t14.num, Str t14.nm, .slice t14.A t14.ks.length t14.c]) (by kernel_rfl) rfl rfl ((ct14.on hM.below)) (by kernel_rfl) fun a hK => ?_
   rcases Bool.eq_false_or_eq_true t14.ok with h15 | h15
   ·refine stepRet hK hM 57 #[.agg #[.int .i64 t14.op, .int .i64 t14.num, Str t14.nm, .slice t14.A t14.ks.length t14.c]] (.bool true) (by kernel_rfl) (run_callE en_cantileverref03_right rfl rfl (by kernel_rfl)) (ret_eq (ih t14 (List.mem_of_getElem? ht14) _ (et14.on hM.below) (exsSh_mem hsk (List.mem_of_getElem? ht14))) (congrArg Value.bool h15)) fun a w hK hM => ?_
    refine stepP hK 58 (.bool false) (by kernel_rfl) (by kernel_rfl) fun a hK => ?_
    refine region_done hK [(58, .bool false), (49, .bool true), (44, .bool (exBad e)), (2, .bool false), (1, pA b1 0), (0, .agg #[.int .i64 e.op, .int .i64 e.num, Str e.nm, .slice e.A e.ks.length e.c]), (3, .int .i64 ((i : Nat) : Int))] ⟨rfl, rfl, rfl, rfl, rfl, rfl, rfl, trivial⟩ fun a hK => ?_
    refine wp_cond_false (hK.get rfl) ?_
    refine wp_skip ?_
    refine region_go (lst := [0, 1, 2]) (by kernel_rfl) ?_
    refine stepM hK 50 3 (by kernel_rfl) (.inl rfl) rfl fun a hK => ?_
    refine stepP hK 51 (.int .i64 (((i + 1) : Nat) : Int)) (by kernel_rfl) (run_addN (i := i) (j := 1) rfl rfl rfl (by omega)) fun a hK => ?_
    refine stepM hK 3 51 (by kernel_rfl) (.inr rfl) rfl fun a hK => ?_
    refine region_done hK [(3, .int .i64 (((i + 1) : Nat) : Int)), (58, .bool false), (49, .bool true), (44, .bool (exBad e)), (2, .bool false), (1, pA b1 0), (0, .agg #[.int .i64 e.op, .int .i64 e.num, Str e.nm, .slice e.A e.ks.length e.c])] ⟨rfl, rfl, rfl, rfl, rfl, rfl, rfl, trivial⟩ fun a hK => ?_
    have hRn : (i + 1) ≤ e.ks.length ∧ exsOk (e.ks.drop (i + 1)) = exsOk e.ks := ⟨by omega, by rw [← hR.2, exsOk_step ht14, h15]; rfl⟩
    have hmn : e.ks.length - (i + 1) < e.ks.length - i := by omega
    exact ⟨i + 1, hK.sub ⟨rfl, rfl, rfl, rfl, rfl, trivial⟩, hM, hRn, hmn⟩
   ·refine stepRet hK hM 57 #[.agg #[.int .i64 t14.op, .int .i64 t14.num, Str t14.nm, .slice t14.A t14.ks.length t14.c]] (.bool false) (by kernel_rfl) (run_callE en_cantileverref03_right rfl rfl (by kernel_rfl)) (ret_eq (ih t14 (List.mem_of_getElem? ht14) _ (et14.on hM.below) (exsSh_mem hsk (List.mem_of_getElem? ht14))) (congrArg Value.bool h15)) fun a w hK hM => ?_
    refine stepP hK 58 (.bool true) (by kernel_rfl) (by kernel_rfl) fun a hK => ?_
    refine region_done hK [(58, .bool true), (49, .bool true), (44, .bool (exBad e)), (2, .bool false), (1, pA b1 0), (0, .agg #[.int .i64 e.op, .int .i64 e.num, Str e.nm, .slice e.A e.ks.length e.c]), (3, .int .i64 ((i : Nat) : Int))] ⟨rfl, rfl, rfl, rfl, rfl, rfl, rfl, trivial⟩ fun a hK => ?_
    refine wp_cond_true (hK.get rfl) ?_
    refine wp_seq ?_
    refine region_go (lst := [0]) (by kernel_rfl) ?_
    refine stepP hK 2 (.bool false) (by kernel_rfl) (by kernel_rfl) fun a hK => ?_
    refine region_done hK [(2, .bool false), (58, .bool true), (49, .bool true), (44, .bool (exBad e)), (1, pA b1 0), (0, .agg #[.int .i64 e.op, .int .i64 e.num, Str e.nm, .slice e.A e.ks.length e.c]), (3, .int .i64 ((i : Nat) : Int))] ⟨rfl, rfl, rfl, rfl, rfl, rfl, rfl, trivial⟩ fun a hK => ?_
    refine wp_ret ?_
    exact ret_t hK rfl (u := (.bool false)) rfl (⟨by rw [ex_ok, hb, ← hR.2, exsOk_step ht14, h15]; rfl, hM.below⟩)
  ·refine stepP hK 49 (.bool false) (by kernel_rfl) (okBool (b := (decide ((((i : Nat) : Int) : Int) < ((e.ks.length : Nat) : Int)))) (by kernel_rfl) (decide_eq_false h13)) fun a hK => ?_
   refine region_done hK [(49, .bool false), (44, .bool (exBad e)), (2, .bool false), (1, pA b1 0), (0, .agg #[.int .i64 e.op, .int .i64 e.num, Str e.nm, .slice e.A e.ks.length e.c]), (3, .int .i64 ((i : Nat) : Int))] ⟨rfl, rfl, rfl, rfl, rfl, rfl, trivial⟩ fun a hK => ?_
   refine wp_cond_false (hK.get rfl) ?_
   refine wp_exit (exit_then (exit_then (exit_here 0 ?_)))
   refine wp_seq ?_
   refine region_go (lst := [0]) (by kernel_rfl) ?_
   refine stepP hK 2 (.bool true) (by kernel_rfl) (by kernel_rfl) fun a hK => ?_
   refine region_done hK [(2, .bool true), (49, .bool false), (44, .bool (exBad e)), (1, pA b1 0), (0, .agg #[.int .i64 e.op, .int .i64 e.num, Str e.nm, .slice e.A e.ks.length e.c]), (3, .int .i64 ((i : Nat) : Int))] ⟨rfl, rfl, rfl, rfl, rfl, rfl, trivial⟩ fun a hK => ?_
   refine wp_ret ?_
   exact ret_t hK rfl (u := (.bool true)) rfl (⟨by rw [ex_ok, hb, ← hR.2, exsOk_end (by omega)]; rfl, hM.below⟩)
theorem en_cantileverref03_parts : Enters Tryd.prog 73 := enters_of Tryd.func73 (by kernel_rfl) rfl
set_option maxRecDepth 100000 in
set_option maxHeartbeats 4000000 in
theorem ref_parts (k : Int) (w0 : World) : Calls Tryd.prog 73 #[.int .i64 k] w0 (Ret w0 (.tuple #[.agg #[.bool (ptNm k), .bool (ptLc k), .bool (ptOr k), .int .i64 (ptEx k), .bool (ptTh k), .bool (ptEl k)], .bool (ptIs k)])) := by
 refine calls_K (args := [.int .i64 k]) (n := 35) (env := [(0, .int .i64 k)]) Tryd.func73 rfl rfl rfl ⟨rfl, trivial⟩ fun a w hK hM => ?_
 refine wp_seq ?_
 refine region_go (lst := [0, 1]) (by kernel_rfl) ?_
 refine stepAlloc hK hM 2 98 [.bool false, .bool false, .bool false, .int .i64 0, .bool false, .bool false] (fun b => pA b 0) (by kernel_rfl) (by kernel_rfl) fun b1 a w hK hM => ?_
 refine stepP hK 3 (.bool false) (by kernel_rfl) (by kernel_rfl) fun a hK => ?_
 refine region_done hK [(3, .bool false), (2, pA b1 0), (0, .int .i64 k)] ⟨rfl, rfl, rfl, trivial⟩ fun a hK => ?_
 refine wp_seq ?_
 refine wp_seq ?_
 refine region_go (lst := [0]) (by kernel_rfl) ?_
 refine stepM hK 4 0 (by kernel_rfl) (.inl rfl) rfl fun a hK => ?_
 refine region_done hK [(4, .int .i64 k), (3, .bool false), (2, pA b1 0), (0, .int .i64 k)] ⟨rfl, rfl, rfl, rfl, trivial⟩ fun a hK => ?_
 refine wp_block ?_
 refine wp_seq ?_
 refine region_go (lst := [0, 1]) (by kernel_rfl) ?_
 by_cases h2 : (k : Int) = 1
 ·refine stepP hK 6 (.bool true) (by kernel_rfl) (okBool (b := (decide ((k : Int) = 1))) (by kernel_rfl) (decide_eq_true h2)) fun a hK => ?_
  refine stepM hK 5 6 (by kernel_rfl) (.inr rfl) rfl fun a hK => ?_
  refine region_done hK [(5, .bool true), (4, .int .i64 k), (3, .bool false), (2, pA b1 0), (0, .int .i64 k)] ⟨rfl, rfl, rfl, rfl, rfl, trivial⟩ fun a hK => ?_
  refine wp_cond_true (hK.get rfl) ?_
  refine wp_seq ?_
  refine region_go (lst := [0, 1, 2]) (by kernel_rfl) ?_
  refine stepP hK 7 (.agg #[.bool true, .bool false, .bool false, .int .i64 1, .bool false, .bool false]) (by kernel_rfl) (by kernel_rfl) fun a hK => ?_
  refine stepStore hK hM 0 [.bool true, .bool false, .bool false, .int .i64 1, .bool false, .bool false] (by kernel_rfl) rfl rfl rfl rfl (by kernel_rfl) fun w hM => ?_
  replace hM := hM.to [.row b1 98 [.bool true, .bool false, .bool false, .int .i64 1, .bool false, .bool false]] (by kernel_rfl)
  refine stepP hK 3 (.bool true) (by kernel_rfl) (by kernel_rfl) fun a hK => ?_
  refine region_done hK [(3, .bool true), (5, .bool true), (4, .int .i64 k), (2, pA b1 0), (0, .int .i64 k)] ⟨rfl, rfl, rfl, rfl, rfl, trivial⟩ fun a hK => ?_
  refine wp_ret ?_
  exact ret_ct hK rfl rfl ((hM.row 0 rfl).cells 0 6) (u := (.agg #[.bool true, .bool false, .bool false, .int .i64 1, .bool false, .bool false])) (by kernel_rfl) (v := (.bool true)) rfl (⟨by obtain rfl := of_decide_eq_true (decide_eq_true h2); rfl, hM.below⟩)
 ·refine stepP hK 6 (.bool false) (by kernel_rfl) (okBool (b := (decide ((k : Int) = 1))) (by kernel_rfl) (decide_eq_false h2)) fun a hK => ?_
  refine stepM hK 5 6 (by kernel_rfl) (.inr rfl) rfl fun a hK => ?_
  refine region_done hK [(5, .bool false), (4, .int .i64 k), (3, .bool false), (2, pA b1 0), (0, .int .i64 k)] ⟨rfl, rfl, rfl, rfl, rfl, trivial⟩ fun a hK => ?_
  refine wp_cond_false (hK.get rfl) ?_
  refine wp_seq ?_
  refine region_go (lst := [0, 1]) (by kernel_rfl) ?_
  by_cases h3 : (k : Int) = 2
  ·refine stepP hK 9 (.bool true) (by kernel_rfl) (okBool (b := (decide ((k : Int) = 2))) (by kernel_rfl) (decide_eq_true h3)) fun a hK => ?_
   refine stepM hK 8 9 (by kernel_rfl) (.inr rfl) rfl fun a hK => ?_
   refine region_done hK [(8, .bool true), (5, .bool false), (4, .int .i64 k), (3, .bool false), (2, pA b1 0), (0, .int .i64 k)] ⟨rfl, rfl, rfl, rfl, rfl, rfl, trivial⟩ fun a hK => ?_
   refine wp_cond_true (hK.get rfl) ?_
   refine wp_seq ?_
   refine region_go (lst := [0, 1, 2]) (by kernel_rfl) ?_
   refine stepP hK 10 (.agg #[.bool true, .bool true, .bool true, .int .i64 0, .bool false, .bool false]) (by kernel_rfl) (by kernel_rfl) fun a hK => ?_
   refine stepStore hK hM 0 [.bool true, .bool true, .bool true, .int .i64 0, .bool false, .bool false] (by kernel_rfl) rfl rfl rfl rfl (by kernel_rfl) fun w hM => ?_
   replace hM := hM.to [.row b1 98 [.bool true, .bool true, .bool true, .int .i64 0, .bool false, .bool false]] (by kernel_rfl)
   refine stepP hK 3 (.bool true) (by kernel_rfl) (by kernel_rfl) fun a hK => ?_
   refine region_done hK [(3, .bool true), (8, .bool true), (5, .bool false), (4, .int .i64 k), (2, pA b1 0), (0, .int .i64 k)] ⟨rfl, rfl, rfl, rfl, rfl, rfl, trivial⟩ fun a hK => ?_
   refine wp_ret ?_
   exact ret_ct hK rfl rfl ((hM.row 0 rfl).cells 0 6) (u := (.agg #[.bool true, .bool true, .bool true, .int .i64 0, .bool false, .bool false])) (by kernel_rfl) (v := (.bool true)) rfl (⟨by obtain rfl := of_decide_eq_true (decide_eq_true h3); rfl, hM.below⟩)
  ·refine stepP hK 9 (.bool false) (by kernel_rfl) (okBool (b := (decide ((k : Int) = 2))) (by kernel_rfl) (decide_eq_false h3)) fun a hK => ?_
   refine stepM hK 8 9 (by kernel_rfl) (.inr rfl) rfl fun a hK => ?_
   refine region_done hK [(8, .bool false), (5, .bool false), (4, .int .i64 k), (3, .bool false), (2, pA b1 0), (0, .int .i64 k)] ⟨rfl, rfl, rfl, rfl, rfl, rfl, trivial⟩ fun a hK => ?_
   refine wp_cond_false (hK.get rfl) ?_
   refine wp_seq ?_
   refine region_go (lst := [0, 1]) (by kernel_rfl) ?_
   by_cases h4 : (k : Int) = 3
   ·refine stepP hK 12 (.bool true) (by kernel_rfl) (okBool (b := (decide ((k : Int) = 3))) (by kernel_rfl) (decide_eq_true h4)) fun a hK => ?_
    refine stepM hK 11 12 (by kernel_rfl) (.inr rfl) rfl fun a hK => ?_
    refine region_done hK [(11, .bool true), (8, .bool false), (5, .bool false), (4, .int .i64 k), (3, .bool false), (2, pA b1 0), (0, .int .i64 k)] ⟨rfl, rfl, rfl, rfl, rfl, rfl, rfl, trivial⟩ fun a hK => ?_
    refine wp_cond_true (hK.get rfl) ?_
    refine wp_seq ?_
    refine region_go (lst := [0, 1, 2]) (by kernel_rfl) ?_
    refine stepP hK 13 (.agg #[.bool false, .bool true, .bool true, .int .i64 1, .bool false, .bool false]) (by kernel_rfl) (by kernel_rfl) fun a hK => ?_
    refine stepStore hK hM 0 [.bool false, .bool true, .bool true, .int .i64 1, .bool false, .bool false] (by kernel_rfl) rfl rfl rfl rfl (by kernel_rfl) fun w hM => ?_
    replace hM := hM.to [.row b1 98 [.bool false, .bool true, .bool true, .int .i64 1, .bool false, .bool false]] (by kernel_rfl)
    refine stepP hK 3 (.bool true) (by kernel_rfl) (by kernel_rfl) fun a hK => ?_
    refine region_done hK [(3, .bool true), (11, .bool true), (8, .bool false), (5, .bool false), (4, .int .i64 k), (2, pA b1 0), (0, .int .i64 k)] ⟨rfl, rfl, rfl, rfl, rfl, rfl, rfl, trivial⟩ fun a hK => ?_
    refine wp_ret ?_
    exact ret_ct hK rfl rfl ((hM.row 0 rfl).cells 0 6) (u := (.agg #[.bool false, .bool true, .bool true, .int .i64 1, .bool false, .bool false])) (by kernel_rfl) (v := (.bool true)) rfl (⟨by obtain rfl := of_decide_eq_true (decide_eq_true h4); rfl, hM.below⟩)
   ·refine stepP hK 12 (.bool false) (by kernel_rfl) (okBool (b := (decide ((k : Int) = 3))) (by kernel_rfl) (decide_eq_false h4)) fun a hK => ?_
    refine stepM hK 11 12 (by kernel_rfl) (.inr rfl) rfl fun a hK => ?_
    refine region_done hK [(11, .bool false), (8, .bool false), (5, .bool false), (4, .int .i64 k), (3, .bool false), (2, pA b1 0), (0, .int .i64 k)] ⟨rfl, rfl, rfl, rfl, rfl, rfl, rfl, trivial⟩ fun a hK => ?_
    refine wp_cond_false (hK.get rfl) ?_
    refine wp_seq ?_
    refine region_go (lst := [0, 1]) (by kernel_rfl) ?_
    by_cases h5 : (k : Int) = 4
    ·refine stepP hK 15 (.bool true) (by kernel_rfl) (okBool (b := (decide ((k : Int) = 4))) (by kernel_rfl) (decide_eq_true h5)) fun a hK => ?_
     refine stepM hK 14 15 (by kernel_rfl) (.inr rfl) rfl fun a hK => ?_
     refine region_done hK [(14, .bool true), (11, .bool false), (8, .bool false), (5, .bool false), (4, .int .i64 k), (3, .bool false), (2, pA b1 0), (0, .int .i64 k)] ⟨rfl, rfl, rfl, rfl, rfl, rfl, rfl, rfl, trivial⟩ fun a hK => ?_
     refine wp_cond_true (hK.get rfl) ?_
     refine wp_seq ?_
     refine region_go (lst := [0, 1, 2]) (by kernel_rfl) ?_
     refine stepP hK 16 (.agg #[.bool true, .bool true, .bool true, .int .i64 2, .bool false, .bool false]) (by kernel_rfl) (by kernel_rfl) fun a hK => ?_
     refine stepStore hK hM 0 [.bool true, .bool true, .bool true, .int .i64 2, .bool false, .bool false] (by kernel_rfl) rfl rfl rfl rfl (by kernel_rfl) fun w hM => ?_
     replace hM := hM.to [.row b1 98 [.bool true, .bool true, .bool true, .int .i64 2, .bool false, .bool false]] (by kernel_rfl)
     refine stepP hK 3 (.bool true) (by kernel_rfl) (by kernel_rfl) fun a hK => ?_
     refine region_done hK [(3, .bool true), (14, .bool true), (11, .bool false), (8, .bool false), (5, .bool false), (4, .int .i64 k), (2, pA b1 0), (0, .int .i64 k)] ⟨rfl, rfl, rfl, rfl, rfl, rfl, rfl, rfl, trivial⟩ fun a hK => ?_
     refine wp_ret ?_
     exact ret_ct hK rfl rfl ((hM.row 0 rfl).cells 0 6) (u := (.agg #[.bool true, .bool true, .bool true, .int .i64 2, .bool false, .bool false])) (by kernel_rfl) (v := (.bool true)) rfl (⟨by obtain rfl := of_decide_eq_true (decide_eq_true h5); rfl, hM.below⟩)
    ·refine stepP hK 15 (.bool false) (by kernel_rfl) (okBool (b := (decide ((k : Int) = 4))) (by kernel_rfl) (decide_eq_false h5)) fun a hK => ?_
     refine stepM hK 14 15 (by kernel_rfl) (.inr rfl) rfl fun a hK => ?_
     refine region_done hK [(14, .bool false), (11, .bool false), (8, .bool false), (5, .bool false), (4, .int .i64 k), (3, .bool false), (2, pA b1 0), (0, .int .i64 k)] ⟨rfl, rfl, rfl, rfl, rfl, rfl, rfl, rfl, trivial⟩ fun a hK => ?_
     refine wp_cond_false (hK.get rfl) ?_
     refine wp_seq ?_
     refine wp_seq ?_
     refine region_go (lst := [0, 1]) (by kernel_rfl) ?_
     by_cases h6 : (k : Int) = 5
     ·refine stepP hK 18 (.bool true) (by kernel_rfl) (okBool (b := (decide ((k : Int) = 5))) (by kernel_rfl) (decide_eq_true h6)) fun a hK => ?_
      refine stepM hK 17 18 (by kernel_rfl) (.inr rfl) rfl fun a hK => ?_
      refine region_done hK [(17, .bool true), (14, .bool false), (11, .bool false), (8, .bool false), (5, .bool false), (4, .int .i64 k), (3, .bool false), (2, pA b1 0), (0, .int .i64 k)] ⟨rfl, rfl, rfl, rfl, rfl, rfl, rfl, rfl, rfl, trivial⟩ fun a hK => ?_
      refine wp_cond_true (hK.get rfl) ?_
      refine wp_skip ?_
      refine wp_cond_true (hK.get rfl) ?_
      refine wp_seq ?_
      refine region_go (lst := [0, 1, 2]) (by kernel_rfl) ?_
      refine stepP hK 20 (.agg #[.bool true, .bool true, .bool true, .int .i64 1, .bool false, .bool false]) (by kernel_rfl) (by kernel_rfl) fun a hK => ?_
      refine stepStore hK hM 0 [.bool true, .bool true, .bool true, .int .i64 1, .bool false, .bool false] (by kernel_rfl) rfl rfl rfl rfl (by kernel_rfl) fun w hM => ?_
      replace hM := hM.to [.row b1 98 [.bool true, .bool true, .bool true, .int .i64 1, .bool false, .bool false]] (by kernel_rfl)
      refine stepP hK 3 (.bool true) (by kernel_rfl) (by kernel_rfl) fun a hK => ?_
      refine region_done hK [(3, .bool true), (17, .bool true), (14, .bool false), (11, .bool false), (8, .bool false), (5, .bool false), (4, .int .i64 k), (2, pA b1 0), (0, .int .i64 k)] ⟨rfl, rfl, rfl, rfl, rfl, rfl, rfl, rfl, rfl, trivial⟩ fun a hK => ?_
      refine wp_ret ?_
      exact ret_ct hK rfl rfl ((hM.row 0 rfl).cells 0 6) (u := (.agg #[.bool true, .bool true, .bool true, .int .i64 1, .bool false, .bool false])) (by kernel_rfl) (v := (.bool true)) rfl (⟨by obtain rfl := of_decide_eq_true (decide_eq_true h6); rfl, hM.below⟩)
     ·refine stepP hK 18 (.bool false) (by kernel_rfl) (okBool (b := (decide ((k : Int) = 5))) (by kernel_rfl) (decide_eq_false h6)) fun a hK => ?_
      refine stepM hK 17 18 (by kernel_rfl) (.inr rfl) rfl fun a hK => ?_
      refine region_done hK [(17, .bool false), (14, .bool false), (11, .bool false), (8, .bool false), (5, .bool false), (4, .int .i64 k), (3, .bool false), (2, pA b1 0), (0, .int .i64 k)] ⟨rfl, rfl, rfl, rfl, rfl, rfl, rfl, rfl, rfl, trivial⟩ fun a hK => ?_
      refine wp_cond_false (hK.get rfl) ?_
      refine region_go (lst := [0, 1]) (by kernel_rfl) ?_
      by_cases h7 : (k : Int) = 6
      ·refine stepP hK 19 (.bool true) (by kernel_rfl) (okBool (b := (decide ((k : Int) = 6))) (by kernel_rfl) (decide_eq_true h7)) fun a hK => ?_
       refine stepM hK 17 19 (by kernel_rfl) (.inr rfl) rfl fun a hK => ?_
       refine region_done hK [(17, .bool true), (14, .bool false), (11, .bool false), (8, .bool false), (5, .bool false), (4, .int .i64 k), (3, .bool false), (2, pA b1 0), (0, .int .i64 k)] ⟨rfl, rfl, rfl, rfl, rfl, rfl, rfl, rfl, rfl, trivial⟩ fun a hK => ?_
       refine wp_cond_true (hK.get rfl) ?_
       refine wp_seq ?_
       refine region_go (lst := [0, 1, 2]) (by kernel_rfl) ?_
       refine stepP hK 20 (.agg #[.bool true, .bool true, .bool true, .int .i64 1, .bool false, .bool false]) (by kernel_rfl) (by kernel_rfl) fun a hK => ?_
       refine stepStore hK hM 0 [.bool true, .bool true, .bool true, .int .i64 1, .bool false, .bool false] (by kernel_rfl) rfl rfl rfl rfl (by kernel_rfl) fun w hM => ?_
       replace hM := hM.to [.row b1 98 [.bool true, .bool true, .bool true, .int .i64 1, .bool false, .bool false]] (by kernel_rfl)
       refine stepP hK 3 (.bool true) (by kernel_rfl) (by kernel_rfl) fun a hK => ?_
       refine region_done hK [(3, .bool true), (17, .bool true), (14, .bool false), (11, .bool false), (8, .bool false), (5, .bool false), (4, .int .i64 k), (2, pA b1 0), (0, .int .i64 k)] ⟨rfl, rfl, rfl, rfl, rfl, rfl, rfl, rfl, rfl, trivial⟩ fun a hK => ?_
       refine wp_ret ?_
       exact ret_ct hK rfl rfl ((hM.row 0 rfl).cells 0 6) (u := (.agg #[.bool true, .bool true, .bool true, .int .i64 1, .bool false, .bool false])) (by kernel_rfl) (v := (.bool true)) rfl (⟨by obtain rfl := of_decide_eq_true (decide_eq_true h7); rfl, hM.below⟩)
      ·refine stepP hK 19 (.bool false) (by kernel_rfl) (okBool (b := (decide ((k : Int) = 6))) (by kernel_rfl) (decide_eq_false h7)) fun a hK => ?_
       refine stepM hK 17 19 (by kernel_rfl) (.inr rfl) rfl fun a hK => ?_
       refine region_done hK [(17, .bool false), (14, .bool false), (11, .bool false), (8, .bool false), (5, .bool false), (4, .int .i64 k), (3, .bool false), (2, pA b1 0), (0, .int .i64 k)] ⟨rfl, rfl, rfl, rfl, rfl, rfl, rfl, rfl, rfl, trivial⟩ fun a hK => ?_
       refine wp_cond_false (hK.get rfl) ?_
       refine wp_seq ?_
       refine region_go (lst := [0, 1]) (by kernel_rfl) ?_
       by_cases h8 : (k : Int) = 7
       ·refine stepP hK 22 (.bool true) (by kernel_rfl) (okBool (b := (decide ((k : Int) = 7))) (by kernel_rfl) (decide_eq_true h8)) fun a hK => ?_
        refine stepM hK 21 22 (by kernel_rfl) (.inr rfl) rfl fun a hK => ?_
        refine region_done hK [(21, .bool true), (17, .bool false), (14, .bool false), (11, .bool false), (8, .bool false), (5, .bool false), (4, .int .i64 k), (3, .bool false), (2, pA b1 0), (0, .int .i64 k)] ⟨rfl, rfl, rfl, rfl, rfl, rfl, rfl, rfl, rfl, rfl, trivial⟩ fun a hK => ?_
        refine wp_cond_true (hK.get rfl) ?_
        refine wp_seq ?_
        refine region_go (lst := [0, 1, 2]) (by kernel_rfl) ?_
        refine stepP hK 23 (.agg #[.bool false, .bool false, .bool true, .int .i64 0, .bool false, .bool false]) (by kernel_rfl) (by kernel_rfl) fun a hK => ?_
        refine stepStore hK hM 0 [.bool false, .bool false, .bool true, .int .i64 0, .bool false, .bool false] (by kernel_rfl) rfl rfl rfl rfl (by kernel_rfl) fun w hM => ?_
        replace hM := hM.to [.row b1 98 [.bool false, .bool false, .bool true, .int .i64 0, .bool false, .bool false]] (by kernel_rfl)
        refine stepP hK 3 (.bool true) (by kernel_rfl) (by kernel_rfl) fun a hK => ?_
        refine region_done hK [(3, .bool true), (21, .bool true), (17, .bool false), (14, .bool false), (11, .bool false), (8, .bool false), (5, .bool false), (4, .int .i64 k), (2, pA b1 0), (0, .int .i64 k)] ⟨rfl, rfl, rfl, rfl, rfl, rfl, rfl, rfl, rfl, rfl, trivial⟩ fun a hK => ?_
        refine wp_ret ?_
        exact ret_ct hK rfl rfl ((hM.row 0 rfl).cells 0 6) (u := (.agg #[.bool false, .bool false, .bool true, .int .i64 0, .bool false, .bool false])) (by kernel_rfl) (v := (.bool true)) rfl (⟨by obtain rfl := of_decide_eq_true (decide_eq_true h8); rfl, hM.below⟩)
       ·refine stepP hK 22 (.bool false) (by kernel_rfl) (okBool (b := (decide ((k : Int) = 7))) (by kernel_rfl) (decide_eq_false h8)) fun a hK => ?_
        refine stepM hK 21 22 (by kernel_rfl) (.inr rfl) rfl fun a hK => ?_
        refine region_done hK [(21, .bool false), (17, .bool false), (14, .bool false), (11, .bool false), (8, .bool false), (5, .bool false), (4, .int .i64 k), (3, .bool false), (2, pA b1 0), (0, .int .i64 k)] ⟨rfl, rfl, rfl, rfl, rfl, rfl, rfl, rfl, rfl, rfl, trivial⟩ fun a hK => ?_
        refine wp_cond_false (hK.get rfl) ?_
        refine wp_seq ?_
        refine wp_seq ?_
        refine region_go (lst := [0, 1]) (by kernel_rfl) ?_
        by_cases h9 : (k : Int) = 8
        ·refine stepP hK 25 (.bool true) (by kernel_rfl) (okBool (b := (decide ((k : Int) = 8))) (by kernel_rfl) (decide_eq_true h9)) fun a hK => ?_
         refine stepM hK 24 25 (by kernel_rfl) (.inr rfl) rfl fun a hK => ?_
         refine region_done hK [(24, .bool true), (21, .bool false), (17, .bool false), (14, .bool false), (11, .bool false), (8, .bool false), (5, .bool false), (4, .int .i64 k), (3, .bool false), (2, pA b1 0), (0, .int .i64 k)] ⟨rfl, rfl, rfl, rfl, rfl, rfl, rfl, rfl, rfl, rfl, rfl, trivial⟩ fun a hK => ?_
         refine wp_cond_true (hK.get rfl) ?_
         refine wp_skip ?_
         refine wp_cond_true (hK.get rfl) ?_
         refine wp_seq ?_
         refine region_go (lst := [0, 1, 2]) (by kernel_rfl) ?_
         refine stepP hK 27 (.agg #[.bool false, .bool false, .bool false, .int .i64 1, .bool false, .bool false]) (by kernel_rfl) (by kernel_rfl) fun a hK => ?_
         refine stepStore hK hM 0 [.bool false, .bool false, .bool false, .int .i64 1, .bool false, .bool false] (by kernel_rfl) rfl rfl rfl rfl (by kernel_rfl) fun w hM => ?_
         replace hM := hM.to [.row b1 98 [.bool false, .bool false, .bool false, .int .i64 1, .bool false, .bool false]] (by kernel_rfl)
         refine stepP hK 3 (.bool true) (by kernel_rfl) (by kernel_rfl) fun a hK => ?_
         refine region_done hK [(3, .bool true), (24, .bool true), (21, .bool false), (17, .bool false), (14, .bool false), (11, .bool false), (8, .bool false), (5, .bool false), (4, .int .i64 k), (2, pA b1 0), (0, .int .i64 k)] ⟨rfl, rfl, rfl, rfl, rfl, rfl, rfl, rfl, rfl, rfl, rfl, trivial⟩ fun a hK => ?_
         refine wp_ret ?_
         exact ret_ct hK rfl rfl ((hM.row 0 rfl).cells 0 6) (u := (.agg #[.bool false, .bool false, .bool false, .int .i64 1, .bool false, .bool false])) (by kernel_rfl) (v := (.bool true)) rfl (⟨by obtain rfl := of_decide_eq_true (decide_eq_true h9); rfl, hM.below⟩)
        ·refine stepP hK 25 (.bool false) (by kernel_rfl) (okBool (b := (decide ((k : Int) = 8))) (by kernel_rfl) (decide_eq_false h9)) fun a hK => ?_
         refine stepM hK 24 25 (by kernel_rfl) (.inr rfl) rfl fun a hK => ?_
         refine region_done hK [(24, .bool false), (21, .bool false), (17, .bool false), (14, .bool false), (11, .bool false), (8, .bool false), (5, .bool false), (4, .int .i64 k), (3, .bool false), (2, pA b1 0), (0, .int .i64 k)] ⟨rfl, rfl, rfl, rfl, rfl, rfl, rfl, rfl, rfl, rfl, rfl, trivial⟩ fun a hK => ?_
         refine wp_cond_false (hK.get rfl) ?_
         refine region_go (lst := [0, 1]) (by kernel_rfl) ?_
         by_cases h10 : (k : Int) = 9
         ·refine stepP hK 26 (.bool true) (by kernel_rfl) (okBool (b := (decide ((k : Int) = 9))) (by kernel_rfl) (decide_eq_true h10)) fun a hK => ?_
          refine stepM hK 24 26 (by kernel_rfl) (.inr rfl) rfl fun a hK => ?_
          refine region_done hK [(24, .bool true), (21, .bool false), (17, .bool false), (14, .bool false), (11, .bool false), (8, .bool false), (5, .bool false), (4, .int .i64 k), (3, .bool false), (2, pA b1 0), (0, .int .i64 k)] ⟨rfl, rfl, rfl, rfl, rfl, rfl, rfl, rfl, rfl, rfl, rfl, trivial⟩ fun a hK => ?_
          refine wp_cond_true (hK.get rfl) ?_
          refine wp_seq ?_
          refine region_go (lst := [0, 1, 2]) (by kernel_rfl) ?_
          refine stepP hK 27 (.agg #[.bool false, .bool false, .bool false, .int .i64 1, .bool false, .bool false]) (by kernel_rfl) (by kernel_rfl) fun a hK => ?_
          refine stepStore hK hM 0 [.bool false, .bool false, .bool false, .int .i64 1, .bool false, .bool false] (by kernel_rfl) rfl rfl rfl rfl (by kernel_rfl) fun w hM => ?_
          replace hM := hM.to [.row b1 98 [.bool false, .bool false, .bool false, .int .i64 1, .bool false, .bool false]] (by kernel_rfl)
          refine stepP hK 3 (.bool true) (by kernel_rfl) (by kernel_rfl) fun a hK => ?_
          refine region_done hK [(3, .bool true), (24, .bool true), (21, .bool false), (17, .bool false), (14, .bool false), (11, .bool false), (8, .bool false), (5, .bool false), (4, .int .i64 k), (2, pA b1 0), (0, .int .i64 k)] ⟨rfl, rfl, rfl, rfl, rfl, rfl, rfl, rfl, rfl, rfl, rfl, trivial⟩ fun a hK => ?_
          refine wp_ret ?_
          exact ret_ct hK rfl rfl ((hM.row 0 rfl).cells 0 6) (u := (.agg #[.bool false, .bool false, .bool false, .int .i64 1, .bool false, .bool false])) (by kernel_rfl) (v := (.bool true)) rfl (⟨by obtain rfl := of_decide_eq_true (decide_eq_true h10); rfl, hM.below⟩)
         ·refine stepP hK 26 (.bool false) (by kernel_rfl) (okBool (b := (decide ((k : Int) = 9))) (by kernel_rfl) (decide_eq_false h10)) fun a hK => ?_
          refine stepM hK 24 26 (by kernel_rfl) (.inr rfl) rfl fun a hK => ?_
          refine region_done hK [(24, .bool false), (21, .bool false), (17, .bool false), (14, .bool false), (11, .bool false), (8, .bool false), (5, .bool false), (4, .int .i64 k), (3, .bool false), (2, pA b1 0), (0, .int .i64 k)] ⟨rfl, rfl, rfl, rfl, rfl, rfl, rfl, rfl, rfl, rfl, rfl, trivial⟩ fun a hK => ?_
          refine wp_cond_false (hK.get rfl) ?_
          refine wp_seq ?_
          refine region_go (lst := [0, 1]) (by kernel_rfl) ?_
          by_cases h11 : (k : Int) = 10
          ·refine stepP hK 29 (.bool true) (by kernel_rfl) (okBool (b := (decide ((k : Int) = 10))) (by kernel_rfl) (decide_eq_true h11)) fun a hK => ?_
           refine stepM hK 28 29 (by kernel_rfl) (.inr rfl) rfl fun a hK => ?_
           refine region_done hK [(28, .bool true), (24, .bool false), (21, .bool false), (17, .bool false), (14, .bool false), (11, .bool false), (8, .bool false), (5, .bool false), (4, .int .i64 k), (3, .bool false), (2, pA b1 0), (0, .int .i64 k)] ⟨rfl, rfl, rfl, rfl, rfl, rfl, rfl, rfl, rfl, rfl, rfl, rfl, trivial⟩ fun a hK => ?_
           refine wp_cond_true (hK.get rfl) ?_
           refine wp_seq ?_
           refine region_go (lst := [0, 1, 2]) (by kernel_rfl) ?_
           refine stepP hK 30 (.agg #[.bool false, .bool false, .bool false, .int .i64 1, .bool true, .bool true]) (by kernel_rfl) (by kernel_rfl) fun a hK => ?_
           refine stepStore hK hM 0 [.bool false, .bool false, .bool false, .int .i64 1, .bool true, .bool true] (by kernel_rfl) rfl rfl rfl rfl (by kernel_rfl) fun w hM => ?_
           replace hM := hM.to [.row b1 98 [.bool false, .bool false, .bool false, .int .i64 1, .bool true, .bool true]] (by kernel_rfl)
           refine stepP hK 3 (.bool true) (by kernel_rfl) (by kernel_rfl) fun a hK => ?_
           refine region_done hK [(3, .bool true), (28, .bool true), (24, .bool false), (21, .bool false), (17, .bool false), (14, .bool false), (11, .bool false), (8, .bool false), (5, .bool false), (4, .int .i64 k), (2, pA b1 0), (0, .int .i64 k)] ⟨rfl, rfl, rfl, rfl, rfl, rfl, rfl, rfl, rfl, rfl, rfl, rfl, trivial⟩ fun a hK => ?_
           refine wp_ret ?_
           exact ret_ct hK rfl rfl ((hM.row 0 rfl).cells 0 6) (u := (.agg #[.bool false, .bool false, .bool false, .int .i64 1, .bool true, .bool true])) (by kernel_rfl) (v := (.bool true)) rfl (⟨by obtain rfl := of_decide_eq_true (decide_eq_true h11); rfl, hM.below⟩)
          ·refine stepP hK 29 (.bool false) (by kernel_rfl) (okBool (b := (decide ((k : Int) = 10))) (by kernel_rfl) (decide_eq_false h11)) fun a hK => ?_
           refine stepM hK 28 29 (by kernel_rfl) (.inr rfl) rfl fun a hK => ?_
           refine region_done hK [(28, .bool false), (24, .bool false), (21, .bool false), (17, .bool false), (14, .bool false), (11, .bool false), (8, .bool false), (5, .bool false), (4, .int .i64 k), (3, .bool false), (2, pA b1 0), (0, .int .i64 k)] ⟨rfl, rfl, rfl, rfl, rfl, rfl, rfl, rfl, rfl, rfl, rfl, rfl, trivial⟩ fun a hK => ?_
           refine wp_cond_false (hK.get rfl) ?_
           refine wp_seq ?_
           refine region_go (lst := [0, 1]) (by kernel_rfl) ?_
           by_cases h12 : (k : Int) = 11
           ·refine stepP hK 32 (.bool true) (by kernel_rfl) (okBool (b := (decide ((k : Int) = 11))) (by kernel_rfl) (decide_eq_true h12)) fun a hK => ?_
            refine stepM hK 31 32 (by kernel_rfl) (.inr rfl) rfl fun a hK => ?_
            refine region_done hK [(31, .bool true), (28, .bool false), (24, .bool false), (21, .bool false), (17, .bool false), (14, .bool false), (11, .bool false), (8, .bool false), (5, .bool false), (4, .int .i64 k), (3, .bool false), (2, pA b1 0), (0, .int .i64 k)] ⟨rfl, rfl, rfl, rfl, rfl, rfl, rfl, rfl, rfl, rfl, rfl, rfl, rfl, trivial⟩ fun a hK => ?_
            refine wp_cond_true (hK.get rfl) ?_
            refine wp_seq ?_
            refine region_go (lst := [0, 1, 2]) (by kernel_rfl) ?_
            refine stepP hK 33 (.agg #[.bool false, .bool false, .bool false, .int .i64 1, .bool true, .bool false]) (by kernel_rfl) (by kernel_rfl) fun a hK => ?_
            refine stepStore hK hM 0 [.bool false, .bool false, .bool false, .int .i64 1, .bool true, .bool false] (by kernel_rfl) rfl rfl rfl rfl (by kernel_rfl) fun w hM => ?_
            replace hM := hM.to [.row b1 98 [.bool false, .bool false, .bool false, .int .i64 1, .bool true, .bool false]] (by kernel_rfl)
            refine stepP hK 3 (.bool true) (by kernel_rfl) (by kernel_rfl) fun a hK => ?_
            refine region_done hK [(3, .bool true), (31, .bool true), (28, .bool false), (24, .bool false), (21, .bool false), (17, .bool false), (14, .bool false), (11, .bool false), (8, .bool false), (5, .bool false), (4, .int .i64 k), (2, pA b1 0), (0, .int .i64 k)] ⟨rfl, rfl, rfl, rfl, rfl, rfl, rfl, rfl, rfl, rfl, rfl, rfl, rfl, trivial⟩ fun a hK => ?_
            refine wp_ret ?_
            exact ret_ct hK rfl rfl ((hM.row 0 rfl).cells 0 6) (u := (.agg #[.bool false, .bool false, .bool false, .int .i64 1, .bool true, .bool false])) (by kernel_rfl) (v := (.bool true)) rfl (⟨by obtain rfl := of_decide_eq_true (decide_eq_true h12); rfl, hM.below⟩)
           ·refine stepP hK 32 (.bool false) (by kernel_rfl) (okBool (b := (decide ((k : Int) = 11))) (by kernel_rfl) (decide_eq_false h12)) fun a hK => ?_
            refine stepM hK 31 32 (by kernel_rfl) (.inr rfl) rfl fun a hK => ?_
            refine region_done hK [(31, .bool false), (28, .bool false), (24, .bool false), (21, .bool false), (17, .bool false), (14, .bool false), (11, .bool false), (8, .bool false), (5, .bool false), (4, .int .i64 k), (3, .bool false), (2, pA b1 0), (0, .int .i64 k)] ⟨rfl, rfl, rfl, rfl, rfl, rfl, rfl, rfl, rfl, rfl, rfl, rfl, rfl, trivial⟩ fun a hK => ?_
            refine wp_cond_false (hK.get rfl) ?_
            refine wp_skip ?_
            refine wp_seq ?_
            refine region_go (lst := [0, 1, 2]) (by kernel_rfl) ?_
            refine stepP hK 34 (.agg #[.bool false, .bool false, .bool false, .int .i64 0, .bool false, .bool false]) (by kernel_rfl) (by kernel_rfl) fun a hK => ?_
            refine stepStore hK hM 0 [.bool false, .bool false, .bool false, .int .i64 0, .bool false, .bool false] (by kernel_rfl) rfl rfl rfl rfl (by kernel_rfl) fun w hM => ?_
            replace hM := hM.to [.row b1 98 [.bool false, .bool false, .bool false, .int .i64 0, .bool false, .bool false]] (by kernel_rfl)
            refine stepP hK 3 (.bool false) (by kernel_rfl) (by kernel_rfl) fun a hK => ?_
            refine region_done hK [(3, .bool false), (31, .bool false), (28, .bool false), (24, .bool false), (21, .bool false), (17, .bool false), (14, .bool false), (11, .bool false), (8, .bool false), (5, .bool false), (4, .int .i64 k), (2, pA b1 0), (0, .int .i64 k)] ⟨rfl, rfl, rfl, rfl, rfl, rfl, rfl, rfl, rfl, rfl, rfl, rfl, rfl, trivial⟩ fun a hK => ?_
            refine wp_ret ?_
            exact ret_ct hK rfl rfl ((hM.row 0 rfl).cells 0 6) (u := (.agg #[.bool false, .bool false, .bool false, .int .i64 0, .bool false, .bool false])) (by kernel_rfl) (v := (.bool false)) rfl (⟨by obtain ⟨q1, q2, q3, q4, q5, q6, q7⟩ := pt_none (k := k) (by omega); rw [q1, q2, q3, q4, q5, q6, q7], hM.below⟩)
end Go.Proofs.YtmfiiapmkidmkaaDoor
