/-
 Which statements may be, as the document says.
-/
import Derived.Test.YtmfiiapmkidmkaaDoorAsH
namespace Go.Proofs.YtmfiiapmkidmkaaDoor
open Go Go.RowKit
abbrev cP (t : Sm) : List Value := [.bool (ptNm t.kind), .bool (ptLc t.kind), .bool (ptOr t.kind), .int .i64 (ptEx t.kind), .bool (ptTh t.kind), .bool (ptEl t.kind)]

theorem en_cantileverref03_rights : Enters Tryd.prog 40 := enters_of Tryd.func40 (by kernel_rfl) rfl
set_option maxRecDepth 100000 in
set_option maxHeartbeats 4000000 in
theorem ref_rights (l : List Sm) : ∀ (A : Option Addr) (c : Nat) (w0 : World), SmsAt w0 A l → l.length ≤ 9223372036854775807 → smsSh l = true → Calls Tryd.prog 40 #[.slice A l.length c] w0 (Ret w0 (.bool (smsOk l))) := by
 induction l using sms_rec
 rename_i l ih
 intro A c w0 hl hln hs
 refine calls_K (args := [.slice A l.length c]) (n := 140) (env := [(0, .slice A l.length c)]) Tryd.func40 rfl rfl rfl ⟨rfl, trivial⟩ fun a w hK hM => ?_
 refine wp_seq ?_
 refine region_go (lst := [0]) (by kernel_rfl) ?_
 refine stepP hK 2 (.bool false) (by kernel_rfl) (by kernel_rfl) fun a hK => ?_
 refine region_done hK [(2, .bool false), (0, .slice A l.length c)] ⟨rfl, rfl, trivial⟩ fun a hK => ?_
 refine wp_seq ?_
 refine wp_seq ?_
 refine region_go (lst := [0]) (by kernel_rfl) ?_
 refine stepP hK 3 (.int .i64 0) (by kernel_rfl) (by kernel_rfl) fun a hK => ?_
 refine region_done hK [(3, .int .i64 0), (2, .bool false), (0, .slice A l.length c)] ⟨rfl, rfl, rfl, trivial⟩ fun a hK => ?_
 refine wp_block ?_
 refine wp_loopX (fun x : Nat => [(2, .bool false), (0, .slice A l.length c), (3, .int .i64 ((x : Nat) : Int))]) (fun x : Nat => []) (fun x : Nat => x ≤ l.length ∧ smsOk (l.drop x) = smsOk l) (fun x : Nat => l.length - x) 0 (hK.sub ⟨rfl, rfl, rfl, trivial⟩) hM ⟨Nat.zero_le _, rfl⟩ ?_
 rintro i a w hK hM hR
 replace hK : Knows a 140 [(2, .bool false), (0, .slice A l.length c), (3, .int .i64 ((i : Nat) : Int))] := hK
 replace hM : Mem w0 w [] := hM
 replace hR : i ≤ l.length ∧ smsOk (l.drop i) = smsOk l := hR
 refine wp_seq ?_
 refine wp_seq ?_
 refine region_go (lst := [0, 1, 2, 3]) (by kernel_rfl) ?_
 refine stepM hK 8 3 (by kernel_rfl) (.inl rfl) rfl fun a hK => ?_
 refine stepM hK 9 0 (by kernel_rfl) (.inl rfl) rfl fun a hK => ?_
 refine stepP hK 10 (.int .i64 ((l.length : Nat) : Int)) (by kernel_rfl) (by kernel_rfl) fun a hK => ?_
 by_cases h1 : (((i : Nat) : Int) : Int) < ((l.length : Nat) : Int)
 ·refine stepP hK 11 (.bool true) (by kernel_rfl) (okBool (b := (decide ((((i : Nat) : Int) : Int) < ((l.length : Nat) : Int)))) (by kernel_rfl) (decide_eq_true h1)) fun a hK => ?_
  refine region_done hK [(11, .bool true), (2, .bool false), (0, .slice A l.length c), (3, .int .i64 ((i : Nat) : Int))] ⟨rfl, rfl, rfl, rfl, trivial⟩ fun a hK => ?_
  refine wp_cond_true (hK.get rfl) ?_
  refine wp_skip ?_
  refine wp_seq ?_
  refine wp_block ?_
  refine wp_seq ?_
  refine region_go (lst := [0, 1, 2, 3, 4, 5]) (by kernel_rfl) ?_
  refine stepM hK 14 0 (by kernel_rfl) (.inl rfl) rfl fun a hK => ?_
  refine stepM hK 15 3 (by kernel_rfl) (.inl rfl) rfl fun a hK => ?_
  obtain ⟨t2, ht2⟩ : ∃ t, l[(i : Nat)]? = some t := ⟨_, List.getElem?_eq_getElem (by omega)⟩
  obtain ⟨⟨at2, At2, ct2⟩, et2⟩ := hl _ _ ht2; have nt2 := et2.len
  refine stepP hK 16 (.pointer (some (at2.add (i * 7)))) (by kernel_rfl) (run_ixA (k := i) (s := 7) rfl rfl At2 rfl Tryd.underlying28 (by kernel_rfl) (by omega)) fun a hK => ?_
  refine stepLoad hK 17 (.agg #[.int .i64 t2.kind, Str t2.nm, Str t2.loc, .int .i64 t2.ord, .slice t2.A1 t2.es.length t2.c1, .slice t2.A2 t2.th.length t2.c2, .slice t2.A3 t2.el.length t2.c3]) (by kernel_rfl) rfl rfl ((ct2.on hM.below)) (by kernel_rfl) fun a hK => ?_
  refine stepAlloc hK hM 4 30 [.int .i64 0, Str [], Str [], .int .i64 0, .slice none 0 0, .slice none 0 0, .slice none 0 0] (fun b => pA b 0) (by kernel_rfl) (by kernel_rfl) fun b3 a w hK hM => ?_
  refine stepStore hK hM 0 (cS t2) (by kernel_rfl) rfl rfl rfl rfl (by kernel_rfl) fun w hM => ?_
  replace hM := hM.to [.row b3 30 (cS t2)] (by kernel_rfl)
  refine region_done hK [(4, pA b3 0), (11, .bool true), (2, .bool false), (0, .slice A l.length c), (3, .int .i64 ((i : Nat) : Int))] ⟨rfl, rfl, rfl, rfl, rfl, trivial⟩ fun a hK => ?_
  refine wp_seq ?_
  have hqs := sm_sh (smsSh_mem hs (List.mem_of_getElem? ht2)); obtain ⟨hqn, hql, -⟩ := hqs
  refine region_go (lst := [0, 1, 2, 3, 4, 5, 6, 7, 8]) (by kernel_rfl) ?_
  refine stepP hK 19 (pA b3 0) (by kernel_rfl) (by kernel_rfl) fun a hK => ?_
  refine stepLoad hK 20 (.int .i64 t2.kind) (by kernel_rfl) rfl rfl ((hM.row 0 rfl).cells 0 1) (by kernel_rfl) fun a hK => ?_
  refine stepRet hK hM 21 #[.int .i64 t2.kind] (.tuple #[.agg #[.bool (ptNm t2.kind), .bool (ptLc t2.kind), .bool (ptOr t2.kind), .int .i64 (ptEx t2.kind), .bool (ptTh t2.kind), .bool (ptEl t2.kind)], .bool (ptIs t2.kind)]) (by kernel_rfl) (run_callE en_cantileverref03_parts rfl rfl (by kernel_rfl)) (ref_parts t2.kind _) fun a w hK hM => ?_
  refine stepM hK 18 21 (by kernel_rfl) (.inl rfl) rfl fun a hK => ?_
  refine stepP hK 22 (.agg #[.bool (ptNm t2.kind), .bool (ptLc t2.kind), .bool (ptOr t2.kind), .int .i64 (ptEx t2.kind), .bool (ptTh t2.kind), .bool (ptEl t2.kind)]) (by kernel_rfl) (by kernel_rfl) fun a hK => ?_
  refine stepP hK 23 (.bool (ptIs t2.kind)) (by kernel_rfl) (by kernel_rfl) fun a hK => ?_
  refine stepAlloc hK hM 5 98 [.bool false, .bool false, .bool false, .int .i64 0, .bool false, .bool false] (fun b => pA b 0) (by kernel_rfl) (by kernel_rfl) fun b4 a w hK hM => ?_
  refine stepStore hK hM 0 (cP t2) (by kernel_rfl) rfl rfl rfl rfl (by kernel_rfl) fun w hM => ?_
  replace hM := hM.to [.row b4 98 (cP t2), .row b3 30 (cS t2)] (by kernel_rfl)
  refine stepM hK 6 23 (by kernel_rfl) (.inr rfl) rfl fun a hK => ?_
  refine region_done hK [(6, .bool (ptIs t2.kind)), (5, pA b4 0), (4, pA b3 0), (11, .bool true), (2, .bool false), (0, .slice A l.length c), (3, .int .i64 ((i : Nat) : Int))] ⟨rfl, rfl, rfl, rfl, rfl, rfl, rfl, trivial⟩ fun a hK => ?_
  refine wp_seq ?_
  refine wp_seq ?_
  refine wp_cut (fun a w => Knows a 140 [(91, .bool (smBad1 t2)), (6, .bool (ptIs t2.kind)), (5, pA b4 0), (4, pA b3 0), (11, .bool true), (2, .bool false), (0, .slice A l.length c), (3, .int .i64 ((i : Nat) : Int))] ∧ Mem w0 w [.row b4 98 (cP t2), .row b3 30 (cS t2)]) ?_ ?_
  ·rcases Bool.eq_false_or_eq_true (!(ptIs t2.kind)) with h5 | h5
   ·refine region_any (F := fun w => Mem w0 w [.row b4 98 (cP t2), .row b3 30 (cS t2)]) hK [some (.bool (ptIs t2.kind)), some (.bool (!(ptIs t2.kind))), sT, sU, sU, sU, sU, sU, sU, sT, sT, sU, sU, sU, sU, sU, sU, sU, sU, sT, sT, sU, sU, sU, sU, sU, sU, sT, sT, sU, sU, sU, sU, sU, sU, sU, sU, sT, sT, sU, sU, sU, sU, sU, sU, sT, sT, sU, sU, sU, sU, sU, sU, sU, sU, sU, sT, sT, sU, sU, sU, sU, sU, sU, sU, sU, sU, sT] 68 (fun _ _ hb hm => hm.go hb) hM (by kernel_rfl) (by kernel_rfl) ?_ [(91, .bool true), (6, .bool (ptIs t2.kind)), (5, pA b4 0), (4, pA b3 0), (11, .bool true), (2, .bool false), (0, .slice A l.length c), (3, .int .i64 ((i : Nat) : Int))] (by kernel_rfl) fun a w hK hM => ?_
    iterate 68 refine ⟨?_, ?_⟩
    trivial
    iterate 2 exact .val _ rfl (by kernel_rfl) fun _ _ => by kernel_rfl
    ·exact .val _ rfl (by kernel_rfl) (fun w hM => (okBool (by kernel_rfl) h5))
    iterate 6 exact .skip rfl (by kernel_rfl)
    iterate 2 exact .val _ rfl (by kernel_rfl) fun _ _ => by kernel_rfl
    iterate 8 exact .skip rfl (by kernel_rfl)
    iterate 2 exact .val _ rfl (by kernel_rfl) fun _ _ => by kernel_rfl
    iterate 6 exact .skip rfl (by kernel_rfl)
    iterate 2 exact .val _ rfl (by kernel_rfl) fun _ _ => by kernel_rfl
    iterate 8 exact .skip rfl (by kernel_rfl)
    iterate 2 exact .val _ rfl (by kernel_rfl) fun _ _ => by kernel_rfl
    iterate 6 exact .skip rfl (by kernel_rfl)
    iterate 2 exact .val _ rfl (by kernel_rfl) fun _ _ => by kernel_rfl
    iterate 9 exact .skip rfl (by kernel_rfl)
    iterate 2 exact .val _ rfl (by kernel_rfl) fun _ _ => by kernel_rfl
    iterate 9 exact .skip rfl (by kernel_rfl)
    ·exact .val _ rfl (by kernel_rfl) fun _ _ => by kernel_rfl
    have e91 : smBad1 t2 = true := by unfold smBad1; rw [h5]; rfl
    exact ⟨rfl, ⟨(by rw [e91]; exact hK.sub ⟨rfl, rfl, rfl, rfl, rfl, rfl, rfl, rfl, trivial⟩), hM⟩⟩
   ·rcases Bool.eq_false_or_eq_true ((ptNm t2.kind) != (isWd t2.nm)) with h6 | h6
    ·refine region_any (F := fun w => Mem w0 w [.row b4 98 (cP t2), .row b3 30 (cS t2)]) hK [some (.bool (ptIs t2.kind)), some (.bool (!(ptIs t2.kind))), sF, some (pA b4 0), some (.bool (ptNm t2.kind)), some (pA b3 1), some (Str t2.nm), some (.bool (isWd t2.nm)), sT, sT, sT, sU, sU, sU, sU, sU, sU, sU, sU, sT, sT, sU, sU, sU, sU, sU, sU, sT, sT, sU, sU, sU, sU, sU, sU, sU, sU, sT, sT, sU, sU, sU, sU, sU, sU, sT, sT, sU, sU, sU, sU, sU, sU, sU, sU, sU, sT, sT, sU, sU, sU, sU, sU, sU, sU, sU, sU, sT] 68 (fun _ _ hb hm => hm.go hb) hM (by kernel_rfl) (by kernel_rfl) ?_ [(91, .bool true), (6, .bool (ptIs t2.kind)), (5, pA b4 0), (4, pA b3 0), (11, .bool true), (2, .bool false), (0, .slice A l.length c), (3, .int .i64 ((i : Nat) : Int))] (by kernel_rfl) fun a w hK hM => ?_
     iterate 68 refine ⟨?_, ?_⟩
     trivial
     iterate 2 exact .val _ rfl (by kernel_rfl) fun _ _ => by kernel_rfl
     ·exact .val _ rfl (by kernel_rfl) (fun w hM => (okBool (by kernel_rfl) h5))
     ·exact .val _ rfl (by kernel_rfl) fun _ _ => by kernel_rfl
     ·exact .val _ rfl (by kernel_rfl) fun _ h => run_loadE rfl rfl ((h.row 0 rfl).cells 0 1) (by kernel_rfl)
     ·exact .val _ rfl (by kernel_rfl) fun _ _ => by kernel_rfl
     ·exact .val _ rfl (by kernel_rfl) fun _ h => run_loadE rfl rfl ((h.row 1 rfl).cells 1 1) (by kernel_rfl)
     ·exact .call _ #[Str t2.nm] (.bool (isWd t2.nm)) rfl (by kernel_rfl) (fun w => (run_callE en_cantileverref03_Word rfl rfl (by kernel_rfl))) (fun w hM => ref_Wd t2.nm _ (by omega))
     ·exact .val _ rfl (by kernel_rfl) (fun w hM => (okBool (run_neB rfl rfl rfl) h6))
     iterate 2 exact .val _ rfl (by kernel_rfl) fun _ _ => by kernel_rfl
     iterate 8 exact .skip rfl (by kernel_rfl)
     iterate 2 exact .val _ rfl (by kernel_rfl) fun _ _ => by kernel_rfl
     iterate 6 exact .skip rfl (by kernel_rfl)
     iterate 2 exact .val _ rfl (by kernel_rfl) fun _ _ => by kernel_rfl
     iterate 8 exact .skip rfl (by kernel_rfl)
     iterate 2 exact .val _ rfl (by kernel_rfl) fun _ _ => by kernel_rfl
     iterate 6 exact .skip rfl (by kernel_rfl)
     iterate 2 exact .val _ rfl (by kernel_rfl) fun _ _ => by kernel_rfl
     iterate 9 exact .skip rfl (by kernel_rfl)
     iterate 2 exact .val _ rfl (by kernel_rfl) fun _ _ => by kernel_rfl
     iterate 9 exact .skip rfl (by kernel_rfl)
     ·exact .val _ rfl (by kernel_rfl) fun _ _ => by kernel_rfl
     have e91 : smBad1 t2 = true := by unfold smBad1; rw [h5, h6]; rfl
     exact ⟨rfl, ⟨(by rw [e91]; exact hK.sub ⟨rfl, rfl, rfl, rfl, rfl, rfl, rfl, rfl, trivial⟩), hM⟩⟩
    ·rcases Bool.eq_false_or_eq_true (!(ptNm t2.kind)) with h7 | h7
     ·rcases Bool.eq_false_or_eq_true (!(decide (t2.nm = []))) with h8 | h8
      ·refine region_any (F := fun w => Mem w0 w [.row b4 98 (cP t2), .row b3 30 (cS t2)]) hK [some (.bool (ptIs t2.kind)), some (.bool (!(ptIs t2.kind))), sF, some (pA b4 0), some (.bool (ptNm t2.kind)), some (pA b3 1), some (Str t2.nm), some (.bool (isWd t2.nm)), sF, sF, sF, some (pA b4 0), some (.bool (ptNm t2.kind)), sT, sT, some (pA b3 1), some (Str t2.nm), sT, sT, sT, sT, sU, sU, sU, sU, sU, sU, sT, sT, sU, sU, sU, sU, sU, sU, sU, sU, sT, sT, sU, sU, sU, sU, sU, sU, sT, sT, sU, sU, sU, sU, sU, sU, sU, sU, sU, sT, sT, sU, sU, sU, sU, sU, sU, sU, sU, sU, sT] 68 (fun _ _ hb hm => hm.go hb) hM (by kernel_rfl) (by kernel_rfl) ?_ [(91, .bool true), (6, .bool (ptIs t2.kind)), (5, pA b4 0), (4, pA b3 0), (11, .bool true), (2, .bool false), (0, .slice A l.length c), (3, .int .i64 ((i : Nat) : Int))] (by kernel_rfl) fun a w hK hM => ?_
       iterate 68 refine ⟨?_, ?_⟩
       trivial
       iterate 2 exact .val _ rfl (by kernel_rfl) fun _ _ => by kernel_rfl
       ·exact .val _ rfl (by kernel_rfl) (fun w hM => (okBool (by kernel_rfl) h5))
       ·exact .val _ rfl (by kernel_rfl) fun _ _ => by kernel_rfl
       ·exact .val _ rfl (by kernel_rfl) fun _ h => run_loadE rfl rfl ((h.row 0 rfl).cells 0 1) (by kernel_rfl)
       ·exact .val _ rfl (by kernel_rfl) fun _ _ => by kernel_rfl
       ·exact .val _ rfl (by kernel_rfl) fun _ h => run_loadE rfl rfl ((h.row 1 rfl).cells 1 1) (by kernel_rfl)
       ·exact .call _ #[Str t2.nm] (.bool (isWd t2.nm)) rfl (by kernel_rfl) (fun w => (run_callE en_cantileverref03_Word rfl rfl (by kernel_rfl))) (fun w hM => ref_Wd t2.nm _ (by omega))
       ·exact .val _ rfl (by kernel_rfl) (fun w hM => (okBool (run_neB rfl rfl rfl) h6))
       iterate 3 exact .val _ rfl (by kernel_rfl) fun _ _ => by kernel_rfl
       ·exact .val _ rfl (by kernel_rfl) fun _ h => run_loadE rfl rfl ((h.row 0 rfl).cells 0 1) (by kernel_rfl)
       ·exact .val _ rfl (by kernel_rfl) (fun w hM => (okBool (by kernel_rfl) h7))
       iterate 2 exact .val _ rfl (by kernel_rfl) fun _ _ => by kernel_rfl
       ·exact .val _ rfl (by kernel_rfl) fun _ h => run_loadE rfl rfl ((h.row 1 rfl).cells 1 1) (by kernel_rfl)
       ·exact .val _ rfl (by kernel_rfl) (fun w hM => (okBool (run_neS rfl rfl rfl) h8))
       iterate 3 exact .val _ rfl (by kernel_rfl) fun _ _ => by kernel_rfl
       iterate 6 exact .skip rfl (by kernel_rfl)
       iterate 2 exact .val _ rfl (by kernel_rfl) fun _ _ => by kernel_rfl
       iterate 8 exact .skip rfl (by kernel_rfl)
       iterate 2 exact .val _ rfl (by kernel_rfl) fun _ _ => by kernel_rfl
       iterate 6 exact .skip rfl (by kernel_rfl)
       iterate 2 exact .val _ rfl (by kernel_rfl) fun _ _ => by kernel_rfl
       iterate 9 exact .skip rfl (by kernel_rfl)
       iterate 2 exact .val _ rfl (by kernel_rfl) fun _ _ => by kernel_rfl
       iterate 9 exact .skip rfl (by kernel_rfl)
       ·exact .val _ rfl (by kernel_rfl) fun _ _ => by kernel_rfl
       have e91 : smBad1 t2 = true := by unfold smBad1; rw [h5, h6, h7, h8]; rfl
       exact ⟨rfl, ⟨(by rw [e91]; exact hK.sub ⟨rfl, rfl, rfl, rfl, rfl, rfl, rfl, rfl, trivial⟩), hM⟩⟩
      ·rcases Bool.eq_false_or_eq_true ((ptLc t2.kind) != (isWd t2.loc)) with h9 | h9
       ·refine region_any (F := fun w => Mem w0 w [.row b4 98 (cP t2), .row b3 30 (cS t2)]) hK [some (.bool (ptIs t2.kind)), some (.bool (!(ptIs t2.kind))), sF, some (pA b4 0), some (.bool (ptNm t2.kind)), some (pA b3 1), some (Str t2.nm), some (.bool (isWd t2.nm)), sF, sF, sF, some (pA b4 0), some (.bool (ptNm t2.kind)), sT, sT, some (pA b3 1), some (Str t2.nm), sF, sF, sF, sF, some (pA b4 1), some (.bool (ptLc t2.kind)), some (pA b3 2), some (Str t2.loc), some (.bool (isWd t2.loc)), sT, sT, sT, sU, sU, sU, sU, sU, sU, sU, sU, sT, sT, sU, sU, sU, sU, sU, sU, sT, sT, sU, sU, sU, sU, sU, sU, sU, sU, sU, sT, sT, sU, sU, sU, sU, sU, sU, sU, sU, sU, sT] 68 (fun _ _ hb hm => hm.go hb) hM (by kernel_rfl) (by kernel_rfl) ?_ [(91, .bool true), (6, .bool (ptIs t2.kind)), (5, pA b4 0), (4, pA b3 0), (11, .bool true), (2, .bool false), (0, .slice A l.length c), (3, .int .i64 ((i : Nat) : Int))] (by kernel_rfl) fun a w hK hM => ?_
        iterate 68 refine ⟨?_, ?_⟩
        trivial
        iterate 2 exact .val _ rfl (by kernel_rfl) fun _ _ => by kernel_rfl
        ·exact .val _ rfl (by kernel_rfl) (fun w hM => (okBool (by kernel_rfl) h5))
        ·exact .val _ rfl (by kernel_rfl) fun _ _ => by kernel_rfl
        ·exact .val _ rfl (by kernel_rfl) fun _ h => run_loadE rfl rfl ((h.row 0 rfl).cells 0 1) (by kernel_rfl)
        ·exact .val _ rfl (by kernel_rfl) fun _ _ => by kernel_rfl
        ·exact .val _ rfl (by kernel_rfl) fun _ h => run_loadE rfl rfl ((h.row 1 rfl).cells 1 1) (by kernel_rfl)
        ·exact .call _ #[Str t2.nm] (.bool (isWd t2.nm)) rfl (by kernel_rfl) (fun w => (run_callE en_cantileverref03_Word rfl rfl (by kernel_rfl))) (fun w hM => ref_Wd t2.nm _ (by omega))
        ·exact .val _ rfl (by kernel_rfl) (fun w hM => (okBool (run_neB rfl rfl rfl) h6))
        iterate 3 exact .val _ rfl (by kernel_rfl) fun _ _ => by kernel_rfl
        ·exact .val _ rfl (by kernel_rfl) fun _ h => run_loadE rfl rfl ((h.row 0 rfl).cells 0 1) (by kernel_rfl)
        ·exact .val _ rfl (by kernel_rfl) (fun w hM => (okBool (by kernel_rfl) h7))
        iterate 2 exact .val _ rfl (by kernel_rfl) fun _ _ => by kernel_rfl
        ·exact .val _ rfl (by kernel_rfl) fun _ h => run_loadE rfl rfl ((h.row 1 rfl).cells 1 1) (by kernel_rfl)
        ·exact .val _ rfl (by kernel_rfl) (fun w hM => (okBool (run_neS rfl rfl rfl) h8))
        iterate 4 exact .val _ rfl (by kernel_rfl) fun _ _ => by kernel_rfl
        ·exact .val _ rfl (by kernel_rfl) fun _ h => run_loadE rfl rfl ((h.row 0 rfl).cells 1 1) (by kernel_rfl)
        ·exact .val _ rfl (by kernel_rfl) fun _ _ => by kernel_rfl
        ·exact .val _ rfl (by kernel_rfl) fun _ h => run_loadE rfl rfl ((h.row 1 rfl).cells 2 1) (by kernel_rfl)
        ·exact .call _ #[Str t2.loc] (.bool (isWd t2.loc)) rfl (by kernel_rfl) (fun w => (run_callE en_cantileverref03_Word rfl rfl (by kernel_rfl))) (fun w hM => ref_Wd t2.loc _ (by omega))
        ·exact .val _ rfl (by kernel_rfl) (fun w hM => (okBool (run_neB rfl rfl rfl) h9))
        iterate 2 exact .val _ rfl (by kernel_rfl) fun _ _ => by kernel_rfl
        iterate 8 exact .skip rfl (by kernel_rfl)
        iterate 2 exact .val _ rfl (by kernel_rfl) fun _ _ => by kernel_rfl
        iterate 6 exact .skip rfl (by kernel_rfl)
        iterate 2 exact .val _ rfl (by kernel_rfl) fun _ _ => by kernel_rfl
        iterate 9 exact .skip rfl (by kernel_rfl)
        iterate 2 exact .val _ rfl (by kernel_rfl) fun _ _ => by kernel_rfl
        iterate 9 exact .skip rfl (by kernel_rfl)
        ·exact .val _ rfl (by kernel_rfl) fun _ _ => by kernel_rfl
        have e91 : smBad1 t2 = true := by unfold smBad1; rw [h5, h6, h7, h8, h9]; rfl
        exact ⟨rfl, ⟨(by rw [e91]; exact hK.sub ⟨rfl, rfl, rfl, rfl, rfl, rfl, rfl, rfl, trivial⟩), hM⟩⟩
       ·rcases Bool.eq_false_or_eq_true (!(ptLc t2.kind)) with h10 | h10
        ·rcases Bool.eq_false_or_eq_true (!(decide (t2.loc = []))) with h11 | h11
         ·refine region_any (F := fun w => Mem w0 w [.row b4 98 (cP t2), .row b3 30 (cS t2)]) hK [some (.bool (ptIs t2.kind)), some (.bool (!(ptIs t2.kind))), sF, some (pA b4 0), some (.bool (ptNm t2.kind)), some (pA b3 1), some (Str t2.nm), some (.bool (isWd t2.nm)), sF, sF, sF, some (pA b4 0), some (.bool (ptNm t2.kind)), sT, sT, some (pA b3 1), some (Str t2.nm), sF, sF, sF, sF, some (pA b4 1), some (.bool (ptLc t2.kind)), some (pA b3 2), some (Str t2.loc), some (.bool (isWd t2.loc)), sF, sF, sF, some (pA b4 1), some (.bool (ptLc t2.kind)), sT, sT, some (pA b3 2), some (Str t2.loc), sT, sT, sT, sT, sU, sU, sU, sU, sU, sU, sT, sT, sU, sU, sU, sU, sU, sU, sU, sU, sU, sT, sT, sU, sU, sU, sU, sU, sU, sU, sU, sU, sT] 68 (fun _ _ hb hm => hm.go hb) hM (by kernel_rfl) (by kernel_rfl) ?_ [(91, .bool true), (6, .bool (ptIs t2.kind)), (5, pA b4 0), (4, pA b3 0), (11, .bool true), (2, .bool false), (0, .slice A l.length c), (3, .int .i64 ((i : Nat) : Int))] (by kernel_rfl) fun a w hK hM => ?_
          iterate 68 refine ⟨?_, ?_⟩
          trivial
          iterate 2 exact .val _ rfl (by kernel_rfl) fun _ _ => by kernel_rfl
          ·exact .val _ rfl (by kernel_rfl) (fun w hM => (okBool (by kernel_rfl) h5))
          ·exact .val _ rfl (by kernel_rfl) fun _ _ => by kernel_rfl
          ·exact .val _ rfl (by kernel_rfl) fun _ h => run_loadE rfl rfl ((h.row 0 rfl).cells 0 1) (by kernel_rfl)
          ·exact .val _ rfl (by kernel_rfl) fun _ _ => by kernel_rfl
          ·exact .val _ rfl (by kernel_rfl) fun _ h => run_loadE rfl rfl ((h.row 1 rfl).cells 1 1) (by kernel_rfl)
          ·exact .call _ #[Str t2.nm] (.bool (isWd t2.nm)) rfl (by kernel_rfl) (fun w => (run_callE en_cantileverref03_Word rfl rfl (by kernel_rfl))) (fun w hM => ref_Wd t2.nm _ (by omega))
          ·exact .val _ rfl (by kernel_rfl) (fun w hM => (okBool (run_neB rfl rfl rfl) h6))
          iterate 3 exact .val _ rfl (by kernel_rfl) fun _ _ => by kernel_rfl
          ·exact .val _ rfl (by kernel_rfl) fun _ h => run_loadE rfl rfl ((h.row 0 rfl).cells 0 1) (by kernel_rfl)
          ·exact .val _ rfl (by kernel_rfl) (fun w hM => (okBool (by kernel_rfl) h7))
          iterate 2 exact .val _ rfl (by kernel_rfl) fun _ _ => by kernel_rfl
          ·exact .val _ rfl (by kernel_rfl) fun _ h => run_loadE rfl rfl ((h.row 1 rfl).cells 1 1) (by kernel_rfl)
          ·exact .val _ rfl (by kernel_rfl) (fun w hM => (okBool (run_neS rfl rfl rfl) h8))
          iterate 4 exact .val _ rfl (by kernel_rfl) fun _ _ => by kernel_rfl
          ·exact .val _ rfl (by kernel_rfl) fun _ h => run_loadE rfl rfl ((h.row 0 rfl).cells 1 1) (by kernel_rfl)
          ·exact .val _ rfl (by kernel_rfl) fun _ _ => by kernel_rfl
          ·exact .val _ rfl (by kernel_rfl) fun _ h => run_loadE rfl rfl ((h.row 1 rfl).cells 2 1) (by kernel_rfl)
          ·exact .call _ #[Str t2.loc] (.bool (isWd t2.loc)) rfl (by kernel_rfl) (fun w => (run_callE en_cantileverref03_Word rfl rfl (by kernel_rfl))) (fun w hM => ref_Wd t2.loc _ (by omega))
          ·exact .val _ rfl (by kernel_rfl) (fun w hM => (okBool (run_neB rfl rfl rfl) h9))
          iterate 3 exact .val _ rfl (by kernel_rfl) fun _ _ => by kernel_rfl
          ·exact .val _ rfl (by kernel_rfl) fun _ h => run_loadE rfl rfl ((h.row 0 rfl).cells 1 1) (by kernel_rfl)
          ·exact .val _ rfl (by kernel_rfl) (fun w hM => (okBool (by kernel_rfl) h10))
          iterate 2 exact .val _ rfl (by kernel_rfl) fun _ _ => by kernel_rfl
          ·exact .val _ rfl (by kernel_rfl) fun _ h => run_loadE rfl rfl ((h.row 1 rfl).cells 2 1) (by kernel_rfl)
          ·exact .val _ rfl (by kernel_rfl) (fun w hM => (okBool (run_neS rfl rfl rfl) h11))
          iterate 3 exact .val _ rfl (by kernel_rfl) fun _ _ => by kernel_rfl
          iterate 6 exact .skip rfl (by kernel_rfl)
          iterate 2 exact .val _ rfl (by kernel_rfl) fun _ _ => by kernel_rfl
          iterate 9 exact .skip rfl (by kernel_rfl)
          iterate 2 exact .val _ rfl (by kernel_rfl) fun _ _ => by kernel_rfl
          iterate 9 exact .skip rfl (by kernel_rfl)
          ·exact .val _ rfl (by kernel_rfl) fun _ _ => by kernel_rfl
          have e91 : smBad1 t2 = true := by unfold smBad1; rw [h5, h6, h7, h8, h9, h10, h11]; rfl
          exact ⟨rfl, ⟨(by rw [e91]; exact hK.sub ⟨rfl, rfl, rfl, rfl, rfl, rfl, rfl, rfl, trivial⟩), hM⟩⟩
         ·rcases Bool.eq_false_or_eq_true (!(decide ((((t2.es.length : Nat) : Int) : Int) = (ptEx t2.kind)))) with h12 | h12
          ·refine region_any (F := fun w => Mem w0 w [.row b4 98 (cP t2), .row b3 30 (cS t2)]) hK [some (.bool (ptIs t2.kind)), some (.bool (!(ptIs t2.kind))), sF, some (pA b4 0), some (.bool (ptNm t2.kind)), some (pA b3 1), some (Str t2.nm), some (.bool (isWd t2.nm)), sF, sF, sF, some (pA b4 0), some (.bool (ptNm t2.kind)), sT, sT, some (pA b3 1), some (Str t2.nm), sF, sF, sF, sF, some (pA b4 1), some (.bool (ptLc t2.kind)), some (pA b3 2), some (Str t2.loc), some (.bool (isWd t2.loc)), sF, sF, sF, some (pA b4 1), some (.bool (ptLc t2.kind)), sT, sT, some (pA b3 2), some (Str t2.loc), sF, sF, sF, sF, some (pA b3 4), some (.slice t2.A1 t2.es.length t2.c1), some (.int .i64 ((t2.es.length : Nat) : Int)), some (pA b4 3), some (.int .i64 (ptEx t2.kind)), sT, sT, sT, sU, sU, sU, sU, sU, sU, sU, sU, sU, sT, sT, sU, sU, sU, sU, sU, sU, sU, sU, sU, sT] 68 (fun _ _ hb hm => hm.go hb) hM (by kernel_rfl) (by kernel_rfl) ?_ [(91, .bool true), (6, .bool (ptIs t2.kind)), (5, pA b4 0), (4, pA b3 0), (11, .bool true), (2, .bool false), (0, .slice A l.length c), (3, .int .i64 ((i : Nat) : Int))] (by kernel_rfl) fun a w hK hM => ?_
           iterate 68 refine ⟨?_, ?_⟩
           trivial
           iterate 2 exact .val _ rfl (by kernel_rfl) fun _ _ => by kernel_rfl
           ·exact .val _ rfl (by kernel_rfl) (fun w hM => (okBool (by kernel_rfl) h5))
           ·exact .val _ rfl (by kernel_rfl) fun _ _ => by kernel_rfl
           ·exact .val _ rfl (by kernel_rfl) fun _ h => run_loadE rfl rfl ((h.row 0 rfl).cells 0 1) (by kernel_rfl)
           ·exact .val _ rfl (by kernel_rfl) fun _ _ => by kernel_rfl
           ·exact .val _ rfl (by kernel_rfl) fun _ h => run_loadE rfl rfl ((h.row 1 rfl).cells 1 1) (by kernel_rfl)
           ·exact .call _ #[Str t2.nm] (.bool (isWd t2.nm)) rfl (by kernel_rfl) (fun w => (run_callE en_cantileverref03_Word rfl rfl (by kernel_rfl))) (fun w hM => ref_Wd t2.nm _ (by omega))
           ·exact .val _ rfl (by kernel_rfl) (fun w hM => (okBool (run_neB rfl rfl rfl) h6))
           iterate 3 exact .val _ rfl (by kernel_rfl) fun _ _ => by kernel_rfl
           ·exact .val _ rfl (by kernel_rfl) fun _ h => run_loadE rfl rfl ((h.row 0 rfl).cells 0 1) (by kernel_rfl)
           ·exact .val _ rfl (by kernel_rfl) (fun w hM => (okBool (by kernel_rfl) h7))
           iterate 2 exact .val _ rfl (by kernel_rfl) fun _ _ => by kernel_rfl
           ·exact .val _ rfl (by kernel_rfl) fun _ h => run_loadE rfl rfl ((h.row 1 rfl).cells 1 1) (by kernel_rfl)
           ·exact .val _ rfl (by kernel_rfl) (fun w hM => (okBool (run_neS rfl rfl rfl) h8))
           iterate 4 exact .val _ rfl (by kernel_rfl) fun _ _ => by kernel_rfl
           ·exact .val _ rfl (by kernel_rfl) fun _ h => run_loadE rfl rfl ((h.row 0 rfl).cells 1 1) (by kernel_rfl)
           ·exact .val _ rfl (by kernel_rfl) fun _ _ => by kernel_rfl
           ·exact .val _ rfl (by kernel_rfl) fun _ h => run_loadE rfl rfl ((h.row 1 rfl).cells 2 1) (by kernel_rfl)
           ·exact .call _ #[Str t2.loc] (.bool (isWd t2.loc)) rfl (by kernel_rfl) (fun w => (run_callE en_cantileverref03_Word rfl rfl (by kernel_rfl))) (fun w hM => ref_Wd t2.loc _ (by omega))
           ·exact .val _ rfl (by kernel_rfl) (fun w hM => (okBool (run_neB rfl rfl rfl) h9))
           iterate 3 exact .val _ rfl (by kernel_rfl) fun _ _ => by kernel_rfl
           ·exact .val _ rfl (by kernel_rfl) fun _ h => run_loadE rfl rfl ((h.row 0 rfl).cells 1 1) (by kernel_rfl)
           ·exact .val _ rfl (by kernel_rfl) (fun w hM => (okBool (by kernel_rfl) h10))
           iterate 2 exact .val _ rfl (by kernel_rfl) fun _ _ => by kernel_rfl
           ·exact .val _ rfl (by kernel_rfl) fun _ h => run_loadE rfl rfl ((h.row 1 rfl).cells 2 1) (by kernel_rfl)
           ·exact .val _ rfl (by kernel_rfl) (fun w hM => (okBool (run_neS rfl rfl rfl) h11))
           iterate 4 exact .val _ rfl (by kernel_rfl) fun _ _ => by kernel_rfl
           ·exact .val _ rfl (by kernel_rfl) fun _ h => run_loadE rfl rfl ((h.row 1 rfl).cells 4 1) (by kernel_rfl)
           iterate 2 exact .val _ rfl (by kernel_rfl) fun _ _ => by kernel_rfl
           ·exact .val _ rfl (by kernel_rfl) fun _ h => run_loadE rfl rfl ((h.row 0 rfl).cells 3 1) (by kernel_rfl)
           ·exact .val _ rfl (by kernel_rfl) (fun w hM => (okBool (by kernel_rfl) h12))
           iterate 2 exact .val _ rfl (by kernel_rfl) fun _ _ => by kernel_rfl
           iterate 9 exact .skip rfl (by kernel_rfl)
           iterate 2 exact .val _ rfl (by kernel_rfl) fun _ _ => by kernel_rfl
           iterate 9 exact .skip rfl (by kernel_rfl)
           ·exact .val _ rfl (by kernel_rfl) fun _ _ => by kernel_rfl
           have e91 : smBad1 t2 = true := by unfold smBad1; rw [h5, h6, h7, h8, h9, h10, h11, h12]; rfl
           exact ⟨rfl, ⟨(by rw [e91]; exact hK.sub ⟨rfl, rfl, rfl, rfl, rfl, rfl, rfl, rfl, trivial⟩), hM⟩⟩
          ·rcases Bool.eq_false_or_eq_true (!(ptTh t2.kind)) with h13 | h13
           ·by_cases h14 : (0 : Int) < ((t2.th.length : Nat) : Int)
            ·refine region_any (F := fun w => Mem w0 w [.row b4 98 (cP t2), .row b3 30 (cS t2)]) hK [some (.bool (ptIs t2.kind)), some (.bool (!(ptIs t2.kind))), sF, some (pA b4 0), some (.bool (ptNm t2.kind)), some (pA b3 1), some (Str t2.nm), some (.bool (isWd t2.nm)), sF, sF, sF, some (pA b4 0), some (.bool (ptNm t2.kind)), sT, sT, some (pA b3 1), some (Str t2.nm), sF, sF, sF, sF, some (pA b4 1), some (.bool (ptLc t2.kind)), some (pA b3 2), some (Str t2.loc), some (.bool (isWd t2.loc)), sF, sF, sF, some (pA b4 1), some (.bool (ptLc t2.kind)), sT, sT, some (pA b3 2), some (Str t2.loc), sF, sF, sF, sF, some (pA b3 4), some (.slice t2.A1 t2.es.length t2.c1), some (.int .i64 ((t2.es.length : Nat) : Int)), some (pA b4 3), some (.int .i64 (ptEx t2.kind)), sF, sF, sF, some (pA b4 4), some (.bool (ptTh t2.kind)), sT, sT, some (pA b3 5), some (.slice t2.A2 t2.th.length t2.c2), some (.int .i64 ((t2.th.length : Nat) : Int)), sT, sT, sT, sT, sU, sU, sU, sU, sU, sU, sU, sU, sU, sT] 68 (fun _ _ hb hm => hm.go hb) hM (by kernel_rfl) (by kernel_rfl) ?_ [(91, .bool true), (6, .bool (ptIs t2.kind)), (5, pA b4 0), (4, pA b3 0), (11, .bool true), (2, .bool false), (0, .slice A l.length c), (3, .int .i64 ((i : Nat) : Int))] (by kernel_rfl) fun a w hK hM => ?_
             iterate 68 refine ⟨?_, ?_⟩
             trivial
             iterate 2 exact .val _ rfl (by kernel_rfl) fun _ _ => by kernel_rfl
             ·exact .val _ rfl (by kernel_rfl) (fun w hM => (okBool (by kernel_rfl) h5))
             ·exact .val _ rfl (by kernel_rfl) fun _ _ => by kernel_rfl
             ·exact .val _ rfl (by kernel_rfl) fun _ h => run_loadE rfl rfl ((h.row 0 rfl).cells 0 1) (by kernel_rfl)
             ·exact .val _ rfl (by kernel_rfl) fun _ _ => by kernel_rfl
             ·exact .val _ rfl (by kernel_rfl) fun _ h => run_loadE rfl rfl ((h.row 1 rfl).cells 1 1) (by kernel_rfl)
             ·exact .call _ #[Str t2.nm] (.bool (isWd t2.nm)) rfl (by kernel_rfl) (fun w => (run_callE en_cantileverref03_Word rfl rfl (by kernel_rfl))) (fun w hM => ref_Wd t2.nm _ (by omega))
             ·exact .val _ rfl (by kernel_rfl) (fun w hM => (okBool (run_neB rfl rfl rfl) h6))
             iterate 3 exact .val _ rfl (by kernel_rfl) fun _ _ => by kernel_rfl
             ·exact .val _ rfl (by kernel_rfl) fun _ h => run_loadE rfl rfl ((h.row 0 rfl).cells 0 1) (by kernel_rfl)
             ·exact .val _ rfl (by kernel_rfl) (fun w hM => (okBool (by kernel_rfl) h7))
             iterate 2 exact .val _ rfl (by kernel_rfl) fun _ _ => by kernel_rfl
             ·exact .val _ rfl (by kernel_rfl) fun _ h => run_loadE rfl rfl ((h.row 1 rfl).cells 1 1) (by kernel_rfl)
             ·exact .val _ rfl (by kernel_rfl) (fun w hM => (okBool (run_neS rfl rfl rfl) h8))
             iterate 4 exact .val _ rfl (by kernel_rfl) fun _ _ => by kernel_rfl
             ·exact .val _ rfl (by kernel_rfl) fun _ h => run_loadE rfl rfl ((h.row 0 rfl).cells 1 1) (by kernel_rfl)
             ·exact .val _ rfl (by kernel_rfl) fun _ _ => by kernel_rfl
             ·exact .val _ rfl (by kernel_rfl) fun _ h => run_loadE rfl rfl ((h.row 1 rfl).cells 2 1) (by kernel_rfl)
             ·exact .call _ #[Str t2.loc] (.bool (isWd t2.loc)) rfl (by kernel_rfl) (fun w => (run_callE en_cantileverref03_Word rfl rfl (by kernel_rfl))) (fun w hM => ref_Wd t2.loc _ (by omega))
             ·exact .val _ rfl (by kernel_rfl) (fun w hM => (okBool (run_neB rfl rfl rfl) h9))
             iterate 3 exact .val _ rfl (by kernel_rfl) fun _ _ => by kernel_rfl
             ·exact .val _ rfl (by kernel_rfl) fun _ h => run_loadE rfl rfl ((h.row 0 rfl).cells 1 1) (by kernel_rfl)
             ·exact .val _ rfl (by kernel_rfl) (fun w hM => (okBool (by kernel_rfl) h10))
             iterate 2 exact .val _ rfl (by kernel_rfl) fun _ _ => by kernel_rfl
             ·exact .val _ rfl (by kernel_rfl) fun _ h => run_loadE rfl rfl ((h.row 1 rfl).cells 2 1) (by kernel_rfl)
             ·exact .val _ rfl (by kernel_rfl) (fun w hM => (okBool (run_neS rfl rfl rfl) h11))
             iterate 4 exact .val _ rfl (by kernel_rfl) fun _ _ => by kernel_rfl
             ·exact .val _ rfl (by kernel_rfl) fun _ h => run_loadE rfl rfl ((h.row 1 rfl).cells 4 1) (by kernel_rfl)
             iterate 2 exact .val _ rfl (by kernel_rfl) fun _ _ => by kernel_rfl
             ·exact .val _ rfl (by kernel_rfl) fun _ h => run_loadE rfl rfl ((h.row 0 rfl).cells 3 1) (by kernel_rfl)
             ·exact .val _ rfl (by kernel_rfl) (fun w hM => (okBool (by kernel_rfl) h12))
             iterate 3 exact .val _ rfl (by kernel_rfl) fun _ _ => by kernel_rfl
             ·exact .val _ rfl (by kernel_rfl) fun _ h => run_loadE rfl rfl ((h.row 0 rfl).cells 4 1) (by kernel_rfl)
             ·exact .val _ rfl (by kernel_rfl) (fun w hM => (okBool (by kernel_rfl) h13))
             iterate 2 exact .val _ rfl (by kernel_rfl) fun _ _ => by kernel_rfl
             ·exact .val _ rfl (by kernel_rfl) fun _ h => run_loadE rfl rfl ((h.row 1 rfl).cells 5 1) (by kernel_rfl)
             ·exact .val _ rfl (by kernel_rfl) fun _ _ => by kernel_rfl
             ·exact .val _ rfl (by kernel_rfl) (fun w hM => (okBool (by kernel_rfl) (decide_eq_true h14)))
             iterate 3 exact .val _ rfl (by kernel_rfl) fun _ _ => by kernel_rfl
             iterate 9 exact .skip rfl (by kernel_rfl)
             ·exact .val _ rfl (by kernel_rfl) fun _ _ => by kernel_rfl
             have e91 : smBad1 t2 = true := by unfold smBad1; rw [h5, h6, h7, h8, h9, h10, h11, h12, h13, (decide_eq_true h14)]; rfl
             exact ⟨rfl, ⟨(by rw [e91]; exact hK.sub ⟨rfl, rfl, rfl, rfl, rfl, rfl, rfl, rfl, trivial⟩), hM⟩⟩
            ·rcases Bool.eq_false_or_eq_true (!(ptEl t2.kind)) with h15 | h15
             ·by_cases h16 : (0 : Int) < ((t2.el.length : Nat) : Int)
              ·refine region_any (F := fun w => Mem w0 w [.row b4 98 (cP t2), .row b3 30 (cS t2)]) hK [some (.bool (ptIs t2.kind)), some (.bool (!(ptIs t2.kind))), sF, some (pA b4 0), some (.bool (ptNm t2.kind)), some (pA b3 1), some (Str t2.nm), some (.bool (isWd t2.nm)), sF, sF, sF, some (pA b4 0), some (.bool (ptNm t2.kind)), sT, sT, some (pA b3 1), some (Str t2.nm), sF, sF, sF, sF, some (pA b4 1), some (.bool (ptLc t2.kind)), some (pA b3 2), some (Str t2.loc), some (.bool (isWd t2.loc)), sF, sF, sF, some (pA b4 1), some (.bool (ptLc t2.kind)), sT, sT, some (pA b3 2), some (Str t2.loc), sF, sF, sF, sF, some (pA b3 4), some (.slice t2.A1 t2.es.length t2.c1), some (.int .i64 ((t2.es.length : Nat) : Int)), some (pA b4 3), some (.int .i64 (ptEx t2.kind)), sF, sF, sF, some (pA b4 4), some (.bool (ptTh t2.kind)), sT, sT, some (pA b3 5), some (.slice t2.A2 t2.th.length t2.c2), some (.int .i64 ((t2.th.length : Nat) : Int)), sF, sF, sF, sF, some (pA b4 5), some (.bool (ptEl t2.kind)), sT, sT, some (pA b3 6), some (.slice t2.A3 t2.el.length t2.c3), some (.int .i64 ((t2.el.length : Nat) : Int)), sT, sT, sT] 68 (fun _ _ hb hm => hm.go hb) hM (by kernel_rfl) (by kernel_rfl) ?_ [(91, .bool true), (6, .bool (ptIs t2.kind)), (5, pA b4 0), (4, pA b3 0), (11, .bool true), (2, .bool false), (0, .slice A l.length c), (3, .int .i64 ((i : Nat) : Int))] (by kernel_rfl) fun a w hK hM => ?_
               iterate 68 refine ⟨?_, ?_⟩
               trivial
               iterate 2 exact .val _ rfl (by kernel_rfl) fun _ _ => by kernel_rfl
               ·exact .val _ rfl (by kernel_rfl) (fun w hM => (okBool (by kernel_rfl) h5))
               ·exact .val _ rfl (by kernel_rfl) fun _ _ => by kernel_rfl
               ·exact .val _ rfl (by kernel_rfl) fun _ h => run_loadE rfl rfl ((h.row 0 rfl).cells 0 1) (by kernel_rfl)
               ·exact .val _ rfl (by kernel_rfl) fun _ _ => by kernel_rfl
               ·exact .val _ rfl (by kernel_rfl) fun _ h => run_loadE rfl rfl ((h.row 1 rfl).cells 1 1) (by kernel_rfl)
               ·exact .call _ #[Str t2.nm] (.bool (isWd t2.nm)) rfl (by kernel_rfl) (fun w => (run_callE en_cantileverref03_Word rfl rfl (by kernel_rfl))) (fun w hM => ref_Wd t2.nm _ (by omega))
               ·exact .val _ rfl (by kernel_rfl) (fun w hM => (okBool (run_neB rfl rfl rfl) h6))
               iterate 3 exact .val _ rfl (by kernel_rfl) fun _ _ => by kernel_rfl
               ·exact .val _ rfl (by kernel_rfl) fun _ h => run_loadE rfl rfl ((h.row 0 rfl).cells 0 1) (by kernel_rfl)
               ·exact .val _ rfl (by kernel_rfl) (fun w hM => (okBool (by kernel_rfl) h7))
               iterate 2 exact .val _ rfl (by kernel_rfl) fun _ _ => by kernel_rfl
               ·exact .val _ rfl (by kernel_rfl) fun _ h => run_loadE rfl rfl ((h.row 1 rfl).cells 1 1) (by kernel_rfl)
               ·exact .val _ rfl (by kernel_rfl) (fun w hM => (okBool (run_neS rfl rfl rfl) h8))
               iterate 4 exact .val _ rfl (by kernel_rfl) fun _ _ => by kernel_rfl
               ·exact .val _ rfl (by kernel_rfl) fun _ h => run_loadE rfl rfl ((h.row 0 rfl).cells 1 1) (by kernel_rfl)
               ·exact .val _ rfl (by kernel_rfl) fun _ _ => by kernel_rfl
               ·exact .val _ rfl (by kernel_rfl) fun _ h => run_loadE rfl rfl ((h.row 1 rfl).cells 2 1) (by kernel_rfl)
               ·exact .call _ #[Str t2.loc] (.bool (isWd t2.loc)) rfl (by kernel_rfl) (fun w => (run_callE en_cantileverref03_Word rfl rfl (by kernel_rfl))) (fun w hM => ref_Wd t2.loc _ (by omega))
               ·exact .val _ rfl (by kernel_rfl) (fun w hM => (okBool (run_neB rfl rfl rfl) h9))
               iterate 3 exact .val _ rfl (by kernel_rfl) fun _ _ => by kernel_rfl
               ·exact .val _ rfl (by kernel_rfl) fun _ h => run_loadE rfl rfl ((h.row 0 rfl).cells 1 1) (by kernel_rfl)
               ·exact .val _ rfl (by kernel_rfl) (fun w hM => (okBool (by kernel_rfl) h10))
               iterate 2 exact .val _ rfl (by kernel_rfl) fun _ _ => by kernel_rfl
               ·exact .val _ rfl (by kernel_rfl) fun _ h => run_loadE rfl rfl ((h.row 1 rfl).cells 2 1) (by kernel_rfl)
               ·exact .val _ rfl (by kernel_rfl) (fun w hM => (okBool (run_neS rfl rfl rfl) h11))
               iterate 4 exact .val _ rfl (by kernel_rfl) fun _ _ => by kernel_rfl
               ·exact .val _ rfl (by kernel_rfl) fun _ h => run_loadE rfl rfl ((h.row 1 rfl).cells 4 1) (by kernel_rfl)
               iterate 2 exact .val _ rfl (by kernel_rfl) fun _ _ => by kernel_rfl
               ·exact .val _ rfl (by kernel_rfl) fun _ h => run_loadE rfl rfl ((h.row 0 rfl).cells 3 1) (by kernel_rfl)
               ·exact .val _ rfl (by kernel_rfl) (fun w hM => (okBool (by kernel_rfl) h12))
               iterate 3 exact .val _ rfl (by kernel_rfl) fun _ _ => by kernel_rfl
               ·exact .val _ rfl (by kernel_rfl) fun _ h => run_loadE rfl rfl ((h.row 0 rfl).cells 4 1) (by kernel_rfl)
               ·exact .val _ rfl (by kernel_rfl) (fun w hM => (okBool (by kernel_rfl) h13))
               iterate 2 exact .val _ rfl (by kernel_rfl) fun _ _ => by kernel_rfl
               ·exact .val _ rfl (by kernel_rfl) fun _ h => run_loadE rfl rfl ((h.row 1 rfl).cells 5 1) (by kernel_rfl)
               ·exact .val _ rfl (by kernel_rfl) fun _ _ => by kernel_rfl
               ·exact .val _ rfl (by kernel_rfl) (fun w hM => (okBool (by kernel_rfl) (decide_eq_false h14)))
               iterate 4 exact .val _ rfl (by kernel_rfl) fun _ _ => by kernel_rfl
               ·exact .val _ rfl (by kernel_rfl) fun _ h => run_loadE rfl rfl ((h.row 0 rfl).cells 5 1) (by kernel_rfl)
               ·exact .val _ rfl (by kernel_rfl) (fun w hM => (okBool (by kernel_rfl) h15))
               iterate 2 exact .val _ rfl (by kernel_rfl) fun _ _ => by kernel_rfl
               ·exact .val _ rfl (by kernel_rfl) fun _ h => run_loadE rfl rfl ((h.row 1 rfl).cells 6 1) (by kernel_rfl)
               ·exact .val _ rfl (by kernel_rfl) fun _ _ => by kernel_rfl
               ·exact .val _ rfl (by kernel_rfl) (fun w hM => (okBool (by kernel_rfl) (decide_eq_true h16)))
               iterate 2 exact .val _ rfl (by kernel_rfl) fun _ _ => by kernel_rfl
               have e91 : smBad1 t2 = true := by unfold smBad1; rw [h5, h6, h7, h8, h9, h10, h11, h12, h13, (decide_eq_false h14), h15, (decide_eq_true h16)]; rfl
               exact ⟨rfl, ⟨(by rw [e91]; exact hK.sub ⟨rfl, rfl, rfl, rfl, rfl, rfl, rfl, rfl, trivial⟩), hM⟩⟩
              ·refine region_any (F := fun w => Mem w0 w [.row b4 98 (cP t2), .row b3 30 (cS t2)]) hK [some (.bool (ptIs t2.kind)), some (.bool (!(ptIs t2.kind))), sF, some (pA b4 0), some (.bool (ptNm t2.kind)), some (pA b3 1), some (Str t2.nm), some (.bool (isWd t2.nm)), sF, sF, sF, some (pA b4 0), some (.bool (ptNm t2.kind)), sT, sT, some (pA b3 1), some (Str t2.nm), sF, sF, sF, sF, some (pA b4 1), some (.bool (ptLc t2.kind)), some (pA b3 2), some (Str t2.loc), some (.bool (isWd t2.loc)), sF, sF, sF, some (pA b4 1), some (.bool (ptLc t2.kind)), sT, sT, some (pA b3 2), some (Str t2.loc), sF, sF, sF, sF, some (pA b3 4), some (.slice t2.A1 t2.es.length t2.c1), some (.int .i64 ((t2.es.length : Nat) : Int)), some (pA b4 3), some (.int .i64 (ptEx t2.kind)), sF, sF, sF, some (pA b4 4), some (.bool (ptTh t2.kind)), sT, sT, some (pA b3 5), some (.slice t2.A2 t2.th.length t2.c2), some (.int .i64 ((t2.th.length : Nat) : Int)), sF, sF, sF, sF, some (pA b4 5), some (.bool (ptEl t2.kind)), sT, sT, some (pA b3 6), some (.slice t2.A3 t2.el.length t2.c3), some (.int .i64 ((t2.el.length : Nat) : Int)), sF, sF, sF] 68 (fun _ _ hb hm => hm.go hb) hM (by kernel_rfl) (by kernel_rfl) ?_ [(91, .bool false), (6, .bool (ptIs t2.kind)), (5, pA b4 0), (4, pA b3 0), (11, .bool true), (2, .bool false), (0, .slice A l.length c), (3, .int .i64 ((i : Nat) : Int))] (by kernel_rfl) fun a w hK hM => ?_
               iterate 68 refine ⟨?_, ?_⟩
               trivial
               iterate 2 exact .val _ rfl (by kernel_rfl) fun _ _ => by kernel_rfl
               ·exact .val _ rfl (by kernel_rfl) (fun w hM => (okBool (by kernel_rfl) h5))
               ·exact .val _ rfl (by kernel_rfl) fun _ _ => by kernel_rfl
               ·exact .val _ rfl (by kernel_rfl) fun _ h => run_loadE rfl rfl ((h.row 0 rfl).cells 0 1) (by kernel_rfl)
               ·exact .val _ rfl (by kernel_rfl) fun _ _ => by kernel_rfl
               ·exact .val _ rfl (by kernel_rfl) fun _ h => run_loadE rfl rfl ((h.row 1 rfl).cells 1 1) (by kernel_rfl)
               ·exact .call _ #[Str t2.nm] (.bool (isWd t2.nm)) rfl (by kernel_rfl) (fun w => (run_callE en_cantileverref03_Word rfl rfl (by kernel_rfl))) (fun w hM => ref_Wd t2.nm _ (by omega))
               ·exact .val _ rfl (by kernel_rfl) (fun w hM => (okBool (run_neB rfl rfl rfl) h6))
               iterate 3 exact .val _ rfl (by kernel_rfl) fun _ _ => by kernel_rfl
               ·exact .val _ rfl (by kernel_rfl) fun _ h => run_loadE rfl rfl ((h.row 0 rfl).cells 0 1) (by kernel_rfl)
               ·exact .val _ rfl (by kernel_rfl) (fun w hM => (okBool (by kernel_rfl) h7))
               iterate 2 exact .val _ rfl (by kernel_rfl) fun _ _ => by kernel_rfl
               ·exact .val _ rfl (by kernel_rfl) fun _ h => run_loadE rfl rfl ((h.row 1 rfl).cells 1 1) (by kernel_rfl)
               ·exact .val _ rfl (by kernel_rfl) (fun w hM => (okBool (run_neS rfl rfl rfl) h8))
               iterate 4 exact .val _ rfl (by kernel_rfl) fun _ _ => by kernel_rfl
               ·exact .val _ rfl (by kernel_rfl) fun _ h => run_loadE rfl rfl ((h.row 0 rfl).cells 1 1) (by kernel_rfl)
               ·exact .val _ rfl (by kernel_rfl) fun _ _ => by kernel_rfl
               ·exact .val _ rfl (by kernel_rfl) fun _ h => run_loadE rfl rfl ((h.row 1 rfl).cells 2 1) (by kernel_rfl)
               ·exact .call _ #[Str t2.loc] (.bool (isWd t2.loc)) rfl (by kernel_rfl) (fun w => (run_callE en_cantileverref03_Word rfl rfl (by kernel_rfl))) (fun w hM => ref_Wd t2.loc _ (by omega))
               ·exact .val _ rfl (by kernel_rfl) (fun w hM => (okBool (run_neB rfl rfl rfl) h9))
               iterate 3 exact .val _ rfl (by kernel_rfl) fun _ _ => by kernel_rfl
               ·exact .val _ rfl (by kernel_rfl) fun _ h => run_loadE rfl rfl ((h.row 0 rfl).cells 1 1) (by kernel_rfl)
               ·exact .val _ rfl (by kernel_rfl) (fun w hM => (okBool (by kernel_rfl) h10))
               iterate 2 exact .val _ rfl (by kernel_rfl) fun _ _ => by kernel_rfl
               ·exact .val _ rfl (by kernel_rfl) fun _ h => run_loadE rfl rfl ((h.row 1 rfl).cells 2 1) (by kernel_rfl)
               ·exact .val _ rfl (by kernel_rfl) (fun w hM => (okBool (run_neS rfl rfl rfl) h11))
               iterate 4 exact .val _ rfl (by kernel_rfl) fun _ _ => by kernel_rfl
               ·exact .val _ rfl (by kernel_rfl) fun _ h => run_loadE rfl rfl ((h.row 1 rfl).cells 4 1) (by kernel_rfl)
               iterate 2 exact .val _ rfl (by kernel_rfl) fun _ _ => by kernel_rfl
               ·exact .val _ rfl (by kernel_rfl) fun _ h => run_loadE rfl rfl ((h.row 0 rfl).cells 3 1) (by kernel_rfl)
               ·exact .val _ rfl (by kernel_rfl) (fun w hM => (okBool (by kernel_rfl) h12))
               iterate 3 exact .val _ rfl (by kernel_rfl) fun _ _ => by kernel_rfl
               ·exact .val _ rfl (by kernel_rfl) fun _ h => run_loadE rfl rfl ((h.row 0 rfl).cells 4 1) (by kernel_rfl)
               ·exact .val _ rfl (by kernel_rfl) (fun w hM => (okBool (by kernel_rfl) h13))
               iterate 2 exact .val _ rfl (by kernel_rfl) fun _ _ => by kernel_rfl
               ·exact .val _ rfl (by kernel_rfl) fun _ h => run_loadE rfl rfl ((h.row 1 rfl).cells 5 1) (by kernel_rfl)
               ·exact .val _ rfl (by kernel_rfl) fun _ _ => by kernel_rfl
               ·exact .val _ rfl (by kernel_rfl) (fun w hM => (okBool (by kernel_rfl) (decide_eq_false h14)))
               iterate 4 exact .val _ rfl (by kernel_rfl) fun _ _ => by kernel_rfl
               ·exact .val _ rfl (by kernel_rfl) fun _ h => run_loadE rfl rfl ((h.row 0 rfl).cells 5 1) (by kernel_rfl)
               ·exact .val _ rfl (by kernel_rfl) (fun w hM => (okBool (by kernel_rfl) h15))
               iterate 2 exact .val _ rfl (by kernel_rfl) fun _ _ => by kernel_rfl
               ·exact .val _ rfl (by kernel_rfl) fun _ h => run_loadE rfl rfl ((h.row 1 rfl).cells 6 1) (by kernel_rfl)
               ·exact .val _ rfl (by kernel_rfl) fun _ _ => by kernel_rfl
               ·exact .val _ rfl (by kernel_rfl) (fun w hM => (okBool (by kernel_rfl) (decide_eq_false h16)))
               iterate 2 exact .val _ rfl (by kernel_rfl) fun _ _ => by kernel_rfl
               have e91 : smBad1 t2 = false := by unfold smBad1; rw [h5, h6, h7, h8, h9, h10, h11, h12, h13, (decide_eq_false h14), h15, (decide_eq_false h16)]; rfl
               exact ⟨rfl, ⟨(by rw [e91]; exact hK.sub ⟨rfl, rfl, rfl, rfl, rfl, rfl, rfl, rfl, trivial⟩), hM⟩⟩
             ·refine region_any (F := fun w => Mem w0 w [.row b4 98 (cP t2), .row b3 30 (cS t2)]) hK [some (.bool (ptIs t2.kind)), some (.bool (!(ptIs t2.kind))), sF, some (pA b4 0), some (.bool (ptNm t2.kind)), some (pA b3 1), some (Str t2.nm), some (.bool (isWd t2.nm)), sF, sF, sF, some (pA b4 0), some (.bool (ptNm t2.kind)), sT, sT, some (pA b3 1), some (Str t2.nm), sF, sF, sF, sF, some (pA b4 1), some (.bool (ptLc t2.kind)), some (pA b3 2), some (Str t2.loc), some (.bool (isWd t2.loc)), sF, sF, sF, some (pA b4 1), some (.bool (ptLc t2.kind)), sT, sT, some (pA b3 2), some (Str t2.loc), sF, sF, sF, sF, some (pA b3 4), some (.slice t2.A1 t2.es.length t2.c1), some (.int .i64 ((t2.es.length : Nat) : Int)), some (pA b4 3), some (.int .i64 (ptEx t2.kind)), sF, sF, sF, some (pA b4 4), some (.bool (ptTh t2.kind)), sT, sT, some (pA b3 5), some (.slice t2.A2 t2.th.length t2.c2), some (.int .i64 ((t2.th.length : Nat) : Int)), sF, sF, sF, sF, some (pA b4 5), some (.bool (ptEl t2.kind)), sF, sF, sU, sU, sU, sU, sF, sF] 68 (fun _ _ hb hm => hm.go hb) hM (by kernel_rfl) (by kernel_rfl) ?_ [(91, .bool false), (6, .bool (ptIs t2.kind)), (5, pA b4 0), (4, pA b3 0), (11, .bool true), (2, .bool false), (0, .slice A l.length c), (3, .int .i64 ((i : Nat) : Int))] (by kernel_rfl) fun a w hK hM => ?_
              iterate 68 refine ⟨?_, ?_⟩
              trivial
              iterate 2 exact .val _ rfl (by kernel_rfl) fun _ _ => by kernel_rfl
              ·exact .val _ rfl (by kernel_rfl) (fun w hM => (okBool (by kernel_rfl) h5))
              ·exact .val _ rfl (by kernel_rfl) fun _ _ => by kernel_rfl
              ·exact .val _ rfl (by kernel_rfl) fun _ h => run_loadE rfl rfl ((h.row 0 rfl).cells 0 1) (by kernel_rfl)
              ·exact .val _ rfl (by kernel_rfl) fun _ _ => by kernel_rfl
              ·exact .val _ rfl (by kernel_rfl) fun _ h => run_loadE rfl rfl ((h.row 1 rfl).cells 1 1) (by kernel_rfl)
              ·exact .call _ #[Str t2.nm] (.bool (isWd t2.nm)) rfl (by kernel_rfl) (fun w => (run_callE en_cantileverref03_Word rfl rfl (by kernel_rfl))) (fun w hM => ref_Wd t2.nm _ (by omega))
              ·exact .val _ rfl (by kernel_rfl) (fun w hM => (okBool (run_neB rfl rfl rfl) h6))
              iterate 3 exact .val _ rfl (by kernel_rfl) fun _ _ => by kernel_rfl
              ·exact .val _ rfl (by kernel_rfl) fun _ h => run_loadE rfl rfl ((h.row 0 rfl).cells 0 1) (by kernel_rfl)
              ·exact .val _ rfl (by kernel_rfl) (fun w hM => (okBool (by kernel_rfl) h7))
              iterate 2 exact .val _ rfl (by kernel_rfl) fun _ _ => by kernel_rfl
              ·exact .val _ rfl (by kernel_rfl) fun _ h => run_loadE rfl rfl ((h.row 1 rfl).cells 1 1) (by kernel_rfl)
              ·exact .val _ rfl (by kernel_rfl) (fun w hM => (okBool (run_neS rfl rfl rfl) h8))
              iterate 4 exact .val _ rfl (by kernel_rfl) fun _ _ => by kernel_rfl
              ·exact .val _ rfl (by kernel_rfl) fun _ h => run_loadE rfl rfl ((h.row 0 rfl).cells 1 1) (by kernel_rfl)
              ·exact .val _ rfl (by kernel_rfl) fun _ _ => by kernel_rfl
              ·exact .val _ rfl (by kernel_rfl) fun _ h => run_loadE rfl rfl ((h.row 1 rfl).cells 2 1) (by kernel_rfl)
              ·exact .call _ #[Str t2.loc] (.bool (isWd t2.loc)) rfl (by kernel_rfl) (fun w => (run_callE en_cantileverref03_Word rfl rfl (by kernel_rfl))) (fun w hM => ref_Wd t2.loc _ (by omega))
              ·exact .val _ rfl (by kernel_rfl) (fun w hM => (okBool (run_neB rfl rfl rfl) h9))
              iterate 3 exact .val _ rfl (by kernel_rfl) fun _ _ => by kernel_rfl
              ·exact .val _ rfl (by kernel_rfl) fun _ h => run_loadE rfl rfl ((h.row 0 rfl).cells 1 1) (by kernel_rfl)
              ·exact .val _ rfl (by kernel_rfl) (fun w hM => (okBool (by kernel_rfl) h10))
              iterate 2 exact .val _ rfl (by kernel_rfl) fun _ _ => by kernel_rfl
              ·exact .val _ rfl (by kernel_rfl) fun _ h => run_loadE rfl rfl ((h.row 1 rfl).cells 2 1) (by kernel_rfl)
              ·exact .val _ rfl (by kernel_rfl) (fun w hM => (okBool (run_neS rfl rfl rfl) h11))
              iterate 4 exact .val _ rfl (by kernel_rfl) fun _ _ => by kernel_rfl
              ·exact .val _ rfl (by kernel_rfl) fun _ h => run_loadE rfl rfl ((h.row 1 rfl).cells 4 1) (by kernel_rfl)
              iterate 2 exact .val _ rfl (by kernel_rfl) fun _ _ => by kernel_rfl
              ·exact .val _ rfl (by kernel_rfl) fun _ h => run_loadE rfl rfl ((h.row 0 rfl).cells 3 1) (by kernel_rfl)
              ·exact .val _ rfl (by kernel_rfl) (fun w hM => (okBool (by kernel_rfl) h12))
              iterate 3 exact .val _ rfl (by kernel_rfl) fun _ _ => by kernel_rfl
              ·exact .val _ rfl (by kernel_rfl) fun _ h => run_loadE rfl rfl ((h.row 0 rfl).cells 4 1) (by kernel_rfl)
              ·exact .val _ rfl (by kernel_rfl) (fun w hM => (okBool (by kernel_rfl) h13))
              iterate 2 exact .val _ rfl (by kernel_rfl) fun _ _ => by kernel_rfl
              ·exact .val _ rfl (by kernel_rfl) fun _ h => run_loadE rfl rfl ((h.row 1 rfl).cells 5 1) (by kernel_rfl)
              ·exact .val _ rfl (by kernel_rfl) fun _ _ => by kernel_rfl
              ·exact .val _ rfl (by kernel_rfl) (fun w hM => (okBool (by kernel_rfl) (decide_eq_false h14)))
              iterate 4 exact .val _ rfl (by kernel_rfl) fun _ _ => by kernel_rfl
              ·exact .val _ rfl (by kernel_rfl) fun _ h => run_loadE rfl rfl ((h.row 0 rfl).cells 5 1) (by kernel_rfl)
              ·exact .val _ rfl (by kernel_rfl) (fun w hM => (okBool (by kernel_rfl) h15))
              ·exact .val _ rfl (by kernel_rfl) fun _ _ => by kernel_rfl
              iterate 4 exact .skip rfl (by kernel_rfl)
              iterate 2 exact .val _ rfl (by kernel_rfl) fun _ _ => by kernel_rfl
              have e91 : smBad1 t2 = false := by unfold smBad1; rw [h5, h6, h7, h8, h9, h10, h11, h12, h13, (decide_eq_false h14), h15]; rfl
              exact ⟨rfl, ⟨(by rw [e91]; exact hK.sub ⟨rfl, rfl, rfl, rfl, rfl, rfl, rfl, rfl, trivial⟩), hM⟩⟩
           ·rcases Bool.eq_false_or_eq_true (!(ptEl t2.kind)) with h17 | h17
            ·by_cases h18 : (0 : Int) < ((t2.el.length : Nat) : Int)
             ·refine region_any (F := fun w => Mem w0 w [.row b4 98 (cP t2), .row b3 30 (cS t2)]) hK [some (.bool (ptIs t2.kind)), some (.bool (!(ptIs t2.kind))), sF, some (pA b4 0), some (.bool (ptNm t2.kind)), some (pA b3 1), some (Str t2.nm), some (.bool (isWd t2.nm)), sF, sF, sF, some (pA b4 0), some (.bool (ptNm t2.kind)), sT, sT, some (pA b3 1), some (Str t2.nm), sF, sF, sF, sF, some (pA b4 1), some (.bool (ptLc t2.kind)), some (pA b3 2), some (Str t2.loc), some (.bool (isWd t2.loc)), sF, sF, sF, some (pA b4 1), some (.bool (ptLc t2.kind)), sT, sT, some (pA b3 2), some (Str t2.loc), sF, sF, sF, sF, some (pA b3 4), some (.slice t2.A1 t2.es.length t2.c1), some (.int .i64 ((t2.es.length : Nat) : Int)), some (pA b4 3), some (.int .i64 (ptEx t2.kind)), sF, sF, sF, some (pA b4 4), some (.bool (ptTh t2.kind)), sF, sF, sU, sU, sU, sU, sF, sF, sF, some (pA b4 5), some (.bool (ptEl t2.kind)), sT, sT, some (pA b3 6), some (.slice t2.A3 t2.el.length t2.c3), some (.int .i64 ((t2.el.length : Nat) : Int)), sT, sT, sT] 68 (fun _ _ hb hm => hm.go hb) hM (by kernel_rfl) (by kernel_rfl) ?_ [(91, .bool true), (6, .bool (ptIs t2.kind)), (5, pA b4 0), (4, pA b3 0), (11, .bool true), (2, .bool false), (0, .slice A l.length c), (3, .int .i64 ((i : Nat) : Int))] (by kernel_rfl) fun a w hK hM => ?_
              iterate 68 refine ⟨?_, ?_⟩
              trivial
              iterate 2 exact .val _ rfl (by kernel_rfl) fun _ _ => by kernel_rfl
              ·exact .val _ rfl (by kernel_rfl) (fun w hM => (okBool (by kernel_rfl) h5))
              ·exact .val _ rfl (by kernel_rfl) fun _ _ => by kernel_rfl
              ·exact .val _ rfl (by kernel_rfl) fun _ h => run_loadE rfl rfl ((h.row 0 rfl).cells 0 1) (by kernel_rfl)
              ·exact .val _ rfl (by kernel_rfl) fun _ _ => by kernel_rfl
              ·exact .val _ rfl (by kernel_rfl) fun _ h => run_loadE rfl rfl ((h.row 1 rfl).cells 1 1) (by kernel_rfl)
              ·exact .call _ #[Str t2.nm] (.bool (isWd t2.nm)) rfl (by kernel_rfl) (fun w => (run_callE en_cantileverref03_Word rfl rfl (by kernel_rfl))) (fun w hM => ref_Wd t2.nm _ (by omega))
              ·exact .val _ rfl (by kernel_rfl) (fun w hM => (okBool (run_neB rfl rfl rfl) h6))
              iterate 3 exact .val _ rfl (by kernel_rfl) fun _ _ => by kernel_rfl
              ·exact .val _ rfl (by kernel_rfl) fun _ h => run_loadE rfl rfl ((h.row 0 rfl).cells 0 1) (by kernel_rfl)
              ·exact .val _ rfl (by kernel_rfl) (fun w hM => (okBool (by kernel_rfl) h7))
              iterate 2 exact .val _ rfl (by kernel_rfl) fun _ _ => by kernel_rfl
              ·exact .val _ rfl (by kernel_rfl) fun _ h => run_loadE rfl rfl ((h.row 1 rfl).cells 1 1) (by kernel_rfl)
              ·exact .val _ rfl (by kernel_rfl) (fun w hM => (okBool (run_neS rfl rfl rfl) h8))
              iterate 4 exact .val _ rfl (by kernel_rfl) fun _ _ => by kernel_rfl
              ·exact .val _ rfl (by kernel_rfl) fun _ h => run_loadE rfl rfl ((h.row 0 rfl).cells 1 1) (by kernel_rfl)
              ·exact .val _ rfl (by kernel_rfl) fun _ _ => by kernel_rfl
              ·exact .val _ rfl (by kernel_rfl) fun _ h => run_loadE rfl rfl ((h.row 1 rfl).cells 2 1) (by kernel_rfl)
              ·exact .call _ #[Str t2.loc] (.bool (isWd t2.loc)) rfl (by kernel_rfl) (fun w => (run_callE en_cantileverref03_Word rfl rfl (by kernel_rfl))) (fun w hM => ref_Wd t2.loc _ (by omega))
              ·exact .val _ rfl (by kernel_rfl) (fun w hM => (okBool (run_neB rfl rfl rfl) h9))
              iterate 3 exact .val _ rfl (by kernel_rfl) fun _ _ => by kernel_rfl
              ·exact .val _ rfl (by kernel_rfl) fun _ h => run_loadE rfl rfl ((h.row 0 rfl).cells 1 1) (by kernel_rfl)
              ·exact .val _ rfl (by kernel_rfl) (fun w hM => (okBool (by kernel_rfl) h10))
              iterate 2 exact .val _ rfl (by kernel_rfl) fun _ _ => by kernel_rfl
              ·exact .val _ rfl (by kernel_rfl) fun _ h => run_loadE rfl rfl ((h.row 1 rfl).cells 2 1) (by kernel_rfl)
              ·exact .val _ rfl (by kernel_rfl) (fun w hM => (okBool (run_neS rfl rfl rfl) h11))
              iterate 4 exact .val _ rfl (by kernel_rfl) fun _ _ => by kernel_rfl
              ·exact .val _ rfl (by kernel_rfl) fun _ h => run_loadE rfl rfl ((h.row 1 rfl).cells 4 1) (by kernel_rfl)
              iterate 2 exact .val _ rfl (by kernel_rfl) fun _ _ => by kernel_rfl
              ·exact .val _ rfl (by kernel_rfl) fun _ h => run_loadE rfl rfl ((h.row 0 rfl).cells 3 1) (by kernel_rfl)
              ·exact .val _ rfl (by kernel_rfl) (fun w hM => (okBool (by kernel_rfl) h12))
              iterate 3 exact .val _ rfl (by kernel_rfl) fun _ _ => by kernel_rfl
              ·exact .val _ rfl (by kernel_rfl) fun _ h => run_loadE rfl rfl ((h.row 0 rfl).cells 4 1) (by kernel_rfl)
              ·exact .val _ rfl (by kernel_rfl) (fun w hM => (okBool (by kernel_rfl) h13))
              ·exact .val _ rfl (by kernel_rfl) fun _ _ => by kernel_rfl
              iterate 4 exact .skip rfl (by kernel_rfl)
              iterate 4 exact .val _ rfl (by kernel_rfl) fun _ _ => by kernel_rfl
              ·exact .val _ rfl (by kernel_rfl) fun _ h => run_loadE rfl rfl ((h.row 0 rfl).cells 5 1) (by kernel_rfl)
              ·exact .val _ rfl (by kernel_rfl) (fun w hM => (okBool (by kernel_rfl) h17))
              iterate 2 exact .val _ rfl (by kernel_rfl) fun _ _ => by kernel_rfl
              ·exact .val _ rfl (by kernel_rfl) fun _ h => run_loadE rfl rfl ((h.row 1 rfl).cells 6 1) (by kernel_rfl)
              ·exact .val _ rfl (by kernel_rfl) fun _ _ => by kernel_rfl
              ·exact .val _ rfl (by kernel_rfl) (fun w hM => (okBool (by kernel_rfl) (decide_eq_true h18)))
              iterate 2 exact .val _ rfl (by kernel_rfl) fun _ _ => by kernel_rfl
              have e91 : smBad1 t2 = true := by unfold smBad1; rw [h5, h6, h7, h8, h9, h10, h11, h12, h13, h17, (decide_eq_true h18)]; rfl
              exact ⟨rfl, ⟨(by rw [e91]; exact hK.sub ⟨rfl, rfl, rfl, rfl, rfl, rfl, rfl, rfl, trivial⟩), hM⟩⟩
             ·refine region_any (F := fun w => Mem w0 w [.row b4 98 (cP t2), .row b3 30 (cS t2)]) hK [some (.bool (ptIs t2.kind)), some (.bool (!(ptIs t2.kind))), sF, some (pA b4 0), some (.bool (ptNm t2.kind)), some (pA b3 1), some (Str t2.nm), some (.bool (isWd t2.nm)), sF, sF, sF, some (pA b4 0), some (.bool (ptNm t2.kind)), sT, sT, some (pA b3 1), some (Str t2.nm), sF, sF, sF, sF, some (pA b4 1), some (.bool (ptLc t2.kind)), some (pA b3 2), some (Str t2.loc), some (.bool (isWd t2.loc)), sF, sF, sF, some (pA b4 1), some (.bool (ptLc t2.kind)), sT, sT, some (pA b3 2), some (Str t2.loc), sF, sF, sF, sF, some (pA b3 4), some (.slice t2.A1 t2.es.length t2.c1), some (.int .i64 ((t2.es.length : Nat) : Int)), some (pA b4 3), some (.int .i64 (ptEx t2.kind)), sF, sF, sF, some (pA b4 4), some (.bool (ptTh t2.kind)), sF, sF, sU, sU, sU, sU, sF, sF, sF, some (pA b4 5), some (.bool (ptEl t2.kind)), sT, sT, some (pA b3 6), some (.slice t2.A3 t2.el.length t2.c3), some (.int .i64 ((t2.el.length : Nat) : Int)), sF, sF, sF] 68 (fun _ _ hb hm => hm.go hb) hM (by kernel_rfl) (by kernel_rfl) ?_ [(91, .bool false), (6, .bool (ptIs t2.kind)), (5, pA b4 0), (4, pA b3 0), (11, .bool true), (2, .bool false), (0, .slice A l.length c), (3, .int .i64 ((i : Nat) : Int))] (by kernel_rfl) fun a w hK hM => ?_
              iterate 68 refine ⟨?_, ?_⟩
              trivial
              iterate 2 exact .val _ rfl (by kernel_rfl) fun _ _ => by kernel_rfl
              ·exact .val _ rfl (by kernel_rfl) (fun w hM => (okBool (by kernel_rfl) h5))
              ·exact .val _ rfl (by kernel_rfl) fun _ _ => by kernel_rfl
              ·exact .val _ rfl (by kernel_rfl) fun _ h => run_loadE rfl rfl ((h.row 0 rfl).cells 0 1) (by kernel_rfl)
              ·exact .val _ rfl (by kernel_rfl) fun _ _ => by kernel_rfl
              ·exact .val _ rfl (by kernel_rfl) fun _ h => run_loadE rfl rfl ((h.row 1 rfl).cells 1 1) (by kernel_rfl)
              ·exact .call _ #[Str t2.nm] (.bool (isWd t2.nm)) rfl (by kernel_rfl) (fun w => (run_callE en_cantileverref03_Word rfl rfl (by kernel_rfl))) (fun w hM => ref_Wd t2.nm _ (by omega))
              ·exact .val _ rfl (by kernel_rfl) (fun w hM => (okBool (run_neB rfl rfl rfl) h6))
              iterate 3 exact .val _ rfl (by kernel_rfl) fun _ _ => by kernel_rfl
              ·exact .val _ rfl (by kernel_rfl) fun _ h => run_loadE rfl rfl ((h.row 0 rfl).cells 0 1) (by kernel_rfl)
              ·exact .val _ rfl (by kernel_rfl) (fun w hM => (okBool (by kernel_rfl) h7))
              iterate 2 exact .val _ rfl (by kernel_rfl) fun _ _ => by kernel_rfl
              ·exact .val _ rfl (by kernel_rfl) fun _ h => run_loadE rfl rfl ((h.row 1 rfl).cells 1 1) (by kernel_rfl)
              ·exact .val _ rfl (by kernel_rfl) (fun w hM => (okBool (run_neS rfl rfl rfl) h8))
              iterate 4 exact .val _ rfl (by kernel_rfl) fun _ _ => by kernel_rfl
              ·exact .val _ rfl (by kernel_rfl) fun _ h => run_loadE rfl rfl ((h.row 0 rfl).cells 1 1) (by kernel_rfl)
              ·exact .val _ rfl (by kernel_rfl) fun _ _ => by kernel_rfl
              ·exact .val _ rfl (by kernel_rfl) fun _ h => run_loadE rfl rfl ((h.row 1 rfl).cells 2 1) (by kernel_rfl)
              ·exact .call _ #[Str t2.loc] (.bool (isWd t2.loc)) rfl (by kernel_rfl) (fun w => (run_callE en_cantileverref03_Word rfl rfl (by kernel_rfl))) (fun w hM => ref_Wd t2.loc _ (by omega))
              ·exact .val _ rfl (by kernel_rfl) (fun w hM => (okBool (run_neB rfl rfl rfl) h9))
              iterate 3 exact .val _ rfl (by kernel_rfl) fun _ _ => by kernel_rfl
              ·exact .val _ rfl (by kernel_rfl) fun _ h => run_loadE rfl rfl ((h.row 0 rfl).cells 1 1) (by kernel_rfl)
              ·exact .val _ rfl (by kernel_rfl) (fun w hM => (okBool (by kernel_rfl) h10))
              iterate 2 exact .val _ rfl (by kernel_rfl) fun _ _ => by kernel_rfl
              ·exact .val _ rfl (by kernel_rfl) fun _ h => run_loadE rfl rfl ((h.row 1 rfl).cells 2 1) (by kernel_rfl)
              ·exact .val _ rfl (by kernel_rfl) (fun w hM => (okBool (run_neS rfl rfl rfl) h11))
              iterate 4 exact .val _ rfl (by kernel_rfl) fun _ _ => by kernel_rfl
              ·exact .val _ rfl (by kernel_rfl) fun _ h => run_loadE rfl rfl ((h.row 1 rfl).cells 4 1) (by kernel_rfl)
              iterate 2 exact .val _ rfl (by kernel_rfl) fun _ _ => by kernel_rfl
              ·exact .val _ rfl (by kernel_rfl) fun _ h => run_loadE rfl rfl ((h.row 0 rfl).cells 3 1) (by kernel_rfl)
              ·exact .val _ rfl (by kernel_rfl) (fun w hM => (okBool (by kernel_rfl) h12))
              iterate 3 exact .val _ rfl (by kernel_rfl) fun _ _ => by kernel_rfl
              ·exact .val _ rfl (by kernel_rfl) fun _ h => run_loadE rfl rfl ((h.row 0 rfl).cells 4 1) (by kernel_rfl)
              ·exact .val _ rfl (by kernel_rfl) (fun w hM => (okBool (by kernel_rfl) h13))
              ·exact .val _ rfl (by kernel_rfl) fun _ _ => by kernel_rfl
              iterate 4 exact .skip rfl (by kernel_rfl)
              iterate 4 exact .val _ rfl (by kernel_rfl) fun _ _ => by kernel_rfl
              ·exact .val _ rfl (by kernel_rfl) fun _ h => run_loadE rfl rfl ((h.row 0 rfl).cells 5 1) (by kernel_rfl)
              ·exact .val _ rfl (by kernel_rfl) (fun w hM => (okBool (by kernel_rfl) h17))
              iterate 2 exact .val _ rfl (by kernel_rfl) fun _ _ => by kernel_rfl
              ·exact .val _ rfl (by kernel_rfl) fun _ h => run_loadE rfl rfl ((h.row 1 rfl).cells 6 1) (by kernel_rfl)
              ·exact .val _ rfl (by kernel_rfl) fun _ _ => by kernel_rfl
              ·exact .val _ rfl (by kernel_rfl) (fun w hM => (okBool (by kernel_rfl) (decide_eq_false h18)))
              iterate 2 exact .val _ rfl (by kernel_rfl) fun _ _ => by kernel_rfl
              have e91 : smBad1 t2 = false := by unfold smBad1; rw [h5, h6, h7, h8, h9, h10, h11, h12, h13, h17, (decide_eq_false h18)]; rfl
              exact ⟨rfl, ⟨(by rw [e91]; exact hK.sub ⟨rfl, rfl, rfl, rfl, rfl, rfl, rfl, rfl, trivial⟩), hM⟩⟩
            ·refine region_any (F := fun w => Mem w0 w [.row b4 98 (cP t2), .row b3 30 (cS t2)]) hK [some (.bool (ptIs t2.kind)), some (.bool (!(ptIs t2.kind))), sF, some (pA b4 0), some (.bool (ptNm t2.kind)), some (pA b3 1), some (Str t2.nm), some (.bool (isWd t2.nm)), sF, sF, sF, some (pA b4 0), some (.bool (ptNm t2.kind)), sT, sT, some (pA b3 1), some (Str t2.nm), sF, sF, sF, sF, some (pA b4 1), some (.bool (ptLc t2.kind)), some (pA b3 2), some (Str t2.loc), some (.bool (isWd t2.loc)), sF, sF, sF, some (pA b4 1), some (.bool (ptLc t2.kind)), sT, sT, some (pA b3 2), some (Str t2.loc), sF, sF, sF, sF, some (pA b3 4), some (.slice t2.A1 t2.es.length t2.c1), some (.int .i64 ((t2.es.length : Nat) : Int)), some (pA b4 3), some (.int .i64 (ptEx t2.kind)), sF, sF, sF, some (pA b4 4), some (.bool (ptTh t2.kind)), sF, sF, sU, sU, sU, sU, sF, sF, sF, some (pA b4 5), some (.bool (ptEl t2.kind)), sF, sF, sU, sU, sU, sU, sF, sF] 68 (fun _ _ hb hm => hm.go hb) hM (by kernel_rfl) (by kernel_rfl) ?_ [(91, .bool false), (6, .bool (ptIs t2.kind)), (5, pA b4 0), (4, pA b3 0), (11, .bool true), (2, .bool false), (0, .slice A l.length c), (3, .int .i64 ((i : Nat) : Int))] (by kernel_rfl) fun a w hK hM => ?_
             iterate 68 refine ⟨?_, ?_⟩
             trivial
             iterate 2 exact .val _ rfl (by kernel_rfl) fun _ _ => by kernel_rfl
             ·exact .val _ rfl (by kernel_rfl) (fun w hM => (okBool (by kernel_rfl) h5))
             ·exact .val _ rfl (by kernel_rfl) fun _ _ => by kernel_rfl
             ·exact .val _ rfl (by kernel_rfl) fun _ h => run_loadE rfl rfl ((h.row 0 rfl).cells 0 1) (by kernel_rfl)
             ·exact .val _ rfl (by kernel_rfl) fun _ _ => by kernel_rfl
             ·exact .val _ rfl (by kernel_rfl) fun _ h => run_loadE rfl rfl ((h.row 1 rfl).cells 1 1) (by kernel_rfl)
             ·exact .call _ #[Str t2.nm] (.bool (isWd t2.nm)) rfl (by kernel_rfl) (fun w => (run_callE en_cantileverref03_Word rfl rfl (by kernel_rfl))) (fun w hM => ref_Wd t2.nm _ (by omega))
             ·exact .val _ rfl (by kernel_rfl) (fun w hM => (okBool (run_neB rfl rfl rfl) h6))
             iterate 3 exact .val _ rfl (by kernel_rfl) fun _ _ => by kernel_rfl
             ·exact .val _ rfl (by kernel_rfl) fun _ h => run_loadE rfl rfl ((h.row 0 rfl).cells 0 1) (by kernel_rfl)
             ·exact .val _ rfl (by kernel_rfl) (fun w hM => (okBool (by kernel_rfl) h7))
             iterate 2 exact .val _ rfl (by kernel_rfl) fun _ _ => by kernel_rfl
             ·exact .val _ rfl (by kernel_rfl) fun _ h => run_loadE rfl rfl ((h.row 1 rfl).cells 1 1) (by kernel_rfl)
             ·exact .val _ rfl (by kernel_rfl) (fun w hM => (okBool (run_neS rfl rfl rfl) h8))
             iterate 4 exact .val _ rfl (by kernel_rfl) fun _ _ => by kernel_rfl
             ·exact .val _ rfl (by kernel_rfl) fun _ h => run_loadE rfl rfl ((h.row 0 rfl).cells 1 1) (by kernel_rfl)
             ·exact .val _ rfl (by kernel_rfl) fun _ _ => by kernel_rfl
             ·exact .val _ rfl (by kernel_rfl) fun _ h => run_loadE rfl rfl ((h.row 1 rfl).cells 2 1) (by kernel_rfl)
             ·exact .call _ #[Str t2.loc] (.bool (isWd t2.loc)) rfl (by kernel_rfl) (fun w => (run_callE en_cantileverref03_Word rfl rfl (by kernel_rfl))) (fun w hM => ref_Wd t2.loc _ (by omega))
             ·exact .val _ rfl (by kernel_rfl) (fun w hM => (okBool (run_neB rfl rfl rfl) h9))
             iterate 3 exact .val _ rfl (by kernel_rfl) fun _ _ => by kernel_rfl
             ·exact .val _ rfl (by kernel_rfl) fun _ h => run_loadE rfl rfl ((h.row 0 rfl).cells 1 1) (by kernel_rfl)
             ·exact .val _ rfl (by kernel_rfl) (fun w hM => (okBool (by kernel_rfl) h10))
             iterate 2 exact .val _ rfl (by kernel_rfl) fun _ _ => by kernel_rfl
             ·exact .val _ rfl (by kernel_rfl) fun _ h => run_loadE rfl rfl ((h.row 1 rfl).cells 2 1) (by kernel_rfl)
             ·exact .val _ rfl (by kernel_rfl) (fun w hM => (okBool (run_neS rfl rfl rfl) h11))
             iterate 4 exact .val _ rfl (by kernel_rfl) fun _ _ => by kernel_rfl
             ·exact .val _ rfl (by kernel_rfl) fun _ h => run_loadE rfl rfl ((h.row 1 rfl).cells 4 1) (by kernel_rfl)
             iterate 2 exact .val _ rfl (by kernel_rfl) fun _ _ => by kernel_rfl
             ·exact .val _ rfl (by kernel_rfl) fun _ h => run_loadE rfl rfl ((h.row 0 rfl).cells 3 1) (by kernel_rfl)
             ·exact .val _ rfl (by kernel_rfl) (fun w hM => (okBool (by kernel_rfl) h12))
             iterate 3 exact .val _ rfl (by kernel_rfl) fun _ _ => by kernel_rfl
             ·exact .val _ rfl (by kernel_rfl) fun _ h => run_loadE rfl rfl ((h.row 0 rfl).cells 4 1) (by kernel_rfl)
             ·exact .val _ rfl (by kernel_rfl) (fun w hM => (okBool (by kernel_rfl) h13))
             ·exact .val _ rfl (by kernel_rfl) fun _ _ => by kernel_rfl
             iterate 4 exact .skip rfl (by kernel_rfl)
             iterate 4 exact .val _ rfl (by kernel_rfl) fun _ _ => by kernel_rfl
             ·exact .val _ rfl (by kernel_rfl) fun _ h => run_loadE rfl rfl ((h.row 0 rfl).cells 5 1) (by kernel_rfl)
             ·exact .val _ rfl (by kernel_rfl) (fun w hM => (okBool (by kernel_rfl) h17))
             ·exact .val _ rfl (by kernel_rfl) fun _ _ => by kernel_rfl
             iterate 4 exact .skip rfl (by kernel_rfl)
             iterate 2 exact .val _ rfl (by kernel_rfl) fun _ _ => by kernel_rfl
             have e91 : smBad1 t2 = false := by unfold smBad1; rw [h5, h6, h7, h8, h9, h10, h11, h12, h13, h17]; rfl
             exact ⟨rfl, ⟨(by rw [e91]; exact hK.sub ⟨rfl, rfl, rfl, rfl, rfl, rfl, rfl, rfl, trivial⟩), hM⟩⟩
        ·rcases Bool.eq_false_or_eq_true (!(decide ((((t2.es.length : Nat) : Int) : Int) = (ptEx t2.kind)))) with h19 | h19
         ·refine region_any (F := fun w => Mem w0 w [.row b4 98 (cP t2), .row b3 30 (cS t2)]) hK [some (.bool (ptIs t2.kind)), some (.bool (!(ptIs t2.kind))), sF, some (pA b4 0), some (.bool (ptNm t2.kind)), some (pA b3 1), some (Str t2.nm), some (.bool (isWd t2.nm)), sF, sF, sF, some (pA b4 0), some (.bool (ptNm t2.kind)), sT, sT, some (pA b3 1), some (Str t2.nm), sF, sF, sF, sF, some (pA b4 1), some (.bool (ptLc t2.kind)), some (pA b3 2), some (Str t2.loc), some (.bool (isWd t2.loc)), sF, sF, sF, some (pA b4 1), some (.bool (ptLc t2.kind)), sF, sF, sU, sU, sU, sF, sF, sF, some (pA b3 4), some (.slice t2.A1 t2.es.length t2.c1), some (.int .i64 ((t2.es.length : Nat) : Int)), some (pA b4 3), some (.int .i64 (ptEx t2.kind)), sT, sT, sT, sU, sU, sU, sU, sU, sU, sU, sU, sU, sT, sT, sU, sU, sU, sU, sU, sU, sU, sU, sU, sT] 68 (fun _ _ hb hm => hm.go hb) hM (by kernel_rfl) (by kernel_rfl) ?_ [(91, .bool true), (6, .bool (ptIs t2.kind)), (5, pA b4 0), (4, pA b3 0), (11, .bool true), (2, .bool false), (0, .slice A l.length c), (3, .int .i64 ((i : Nat) : Int))] (by kernel_rfl) fun a w hK hM => ?_
          iterate 68 refine ⟨?_, ?_⟩
          trivial
          iterate 2 exact .val _ rfl (by kernel_rfl) fun _ _ => by kernel_rfl
          ·exact .val _ rfl (by kernel_rfl) (fun w hM => (okBool (by kernel_rfl) h5))
          ·exact .val _ rfl (by kernel_rfl) fun _ _ => by kernel_rfl
          ·exact .val _ rfl (by kernel_rfl) fun _ h => run_loadE rfl rfl ((h.row 0 rfl).cells 0 1) (by kernel_rfl)
          ·exact .val _ rfl (by kernel_rfl) fun _ _ => by kernel_rfl
          ·exact .val _ rfl (by kernel_rfl) fun _ h => run_loadE rfl rfl ((h.row 1 rfl).cells 1 1) (by kernel_rfl)
          ·exact .call _ #[Str t2.nm] (.bool (isWd t2.nm)) rfl (by kernel_rfl) (fun w => (run_callE en_cantileverref03_Word rfl rfl (by kernel_rfl))) (fun w hM => ref_Wd t2.nm _ (by omega))
          ·exact .val _ rfl (by kernel_rfl) (fun w hM => (okBool (run_neB rfl rfl rfl) h6))
          iterate 3 exact .val _ rfl (by kernel_rfl) fun _ _ => by kernel_rfl
          ·exact .val _ rfl (by kernel_rfl) fun _ h => run_loadE rfl rfl ((h.row 0 rfl).cells 0 1) (by kernel_rfl)
          ·exact .val _ rfl (by kernel_rfl) (fun w hM => (okBool (by kernel_rfl) h7))
          iterate 2 exact .val _ rfl (by kernel_rfl) fun _ _ => by kernel_rfl
          ·exact .val _ rfl (by kernel_rfl) fun _ h => run_loadE rfl rfl ((h.row 1 rfl).cells 1 1) (by kernel_rfl)
          ·exact .val _ rfl (by kernel_rfl) (fun w hM => (okBool (run_neS rfl rfl rfl) h8))
          iterate 4 exact .val _ rfl (by kernel_rfl) fun _ _ => by kernel_rfl
          ·exact .val _ rfl (by kernel_rfl) fun _ h => run_loadE rfl rfl ((h.row 0 rfl).cells 1 1) (by kernel_rfl)
          ·exact .val _ rfl (by kernel_rfl) fun _ _ => by kernel_rfl
          ·exact .val _ rfl (by kernel_rfl) fun _ h => run_loadE rfl rfl ((h.row 1 rfl).cells 2 1) (by kernel_rfl)
          ·exact .call _ #[Str t2.loc] (.bool (isWd t2.loc)) rfl (by kernel_rfl) (fun w => (run_callE en_cantileverref03_Word rfl rfl (by kernel_rfl))) (fun w hM => ref_Wd t2.loc _ (by omega))
          ·exact .val _ rfl (by kernel_rfl) (fun w hM => (okBool (run_neB rfl rfl rfl) h9))
          iterate 3 exact .val _ rfl (by kernel_rfl) fun _ _ => by kernel_rfl
          ·exact .val _ rfl (by kernel_rfl) fun _ h => run_loadE rfl rfl ((h.row 0 rfl).cells 1 1) (by kernel_rfl)
          ·exact .val _ rfl (by kernel_rfl) (fun w hM => (okBool (by kernel_rfl) h10))
          ·exact .val _ rfl (by kernel_rfl) fun _ _ => by kernel_rfl
          iterate 3 exact .skip rfl (by kernel_rfl)
          iterate 4 exact .val _ rfl (by kernel_rfl) fun _ _ => by kernel_rfl
          ·exact .val _ rfl (by kernel_rfl) fun _ h => run_loadE rfl rfl ((h.row 1 rfl).cells 4 1) (by kernel_rfl)
          iterate 2 exact .val _ rfl (by kernel_rfl) fun _ _ => by kernel_rfl
          ·exact .val _ rfl (by kernel_rfl) fun _ h => run_loadE rfl rfl ((h.row 0 rfl).cells 3 1) (by kernel_rfl)
          ·exact .val _ rfl (by kernel_rfl) (fun w hM => (okBool (by kernel_rfl) h19))
          iterate 2 exact .val _ rfl (by kernel_rfl) fun _ _ => by kernel_rfl
          iterate 9 exact .skip rfl (by kernel_rfl)
          iterate 2 exact .val _ rfl (by kernel_rfl) fun _ _ => by kernel_rfl
          iterate 9 exact .skip rfl (by kernel_rfl)
          ·exact .val _ rfl (by kernel_rfl) fun _ _ => by kernel_rfl
          have e91 : smBad1 t2 = true := by unfold smBad1; rw [h5, h6, h7, h8, h9, h10, h19]; rfl
          exact ⟨rfl, ⟨(by rw [e91]; exact hK.sub ⟨rfl, rfl, rfl, rfl, rfl, rfl, rfl, rfl, trivial⟩), hM⟩⟩
         ·rcases Bool.eq_false_or_eq_true (!(ptTh t2.kind)) with h20 | h20
          ·by_cases h21 : (0 : Int) < ((t2.th.length : Nat) : Int)
           ·refine region_any (F := fun w => Mem w0 w [.row b4 98 (cP t2), .row b3 30 (cS t2)]) hK [some (.bool (ptIs t2.kind)), some (.bool (!(ptIs t2.kind))), sF, some (pA b4 0), some (.bool (ptNm t2.kind)), some (pA b3 1), some (Str t2.nm), some (.bool (isWd t2.nm)), sF, sF, sF, some (pA b4 0), some (.bool (ptNm t2.kind)), sT, sT, some (pA b3 1), some (Str t2.nm), sF, sF, sF, sF, some (pA b4 1), some (.bool (ptLc t2.kind)), some (pA b3 2), some (Str t2.loc), some (.bool (isWd t2.loc)), sF, sF, sF, some (pA b4 1), some (.bool (ptLc t2.kind)), sF, sF, sU, sU, sU, sF, sF, sF, some (pA b3 4), some (.slice t2.A1 t2.es.length t2.c1), some (.int .i64 ((t2.es.length : Nat) : Int)), some (pA b4 3), some (.int .i64 (ptEx t2.kind)), sF, sF, sF, some (pA b4 4), some (.bool (ptTh t2.kind)), sT, sT, some (pA b3 5), some (.slice t2.A2 t2.th.length t2.c2), some (.int .i64 ((t2.th.length : Nat) : Int)), sT, sT, sT, sT, sU, sU, sU, sU, sU, sU, sU, sU, sU, sT] 68 (fun _ _ hb hm => hm.go hb) hM (by kernel_rfl) (by kernel_rfl) ?_ [(91, .bool true), (6, .bool (ptIs t2.kind)), (5, pA b4 0), (4, pA b3 0), (11, .bool true), (2, .bool false), (0, .slice A l.length c), (3, .int .i64 ((i : Nat) : Int))] (by kernel_rfl) fun a w hK hM => ?_
            iterate 68 refine ⟨?_, ?_⟩
            trivial
            iterate 2 exact .val _ rfl (by kernel_rfl) fun _ _ => by kernel_rfl
            ·exact .val _ rfl (by kernel_rfl) (fun w hM => (okBool (by kernel_rfl) h5))
            ·exact .val _ rfl (by kernel_rfl) fun _ _ => by kernel_rfl
            ·exact .val _ rfl (by kernel_rfl) fun _ h => run_loadE rfl rfl ((h.row 0 rfl).cells 0 1) (by kernel_rfl)
            ·exact .val _ rfl (by kernel_rfl) fun _ _ => by kernel_rfl
            ·exact .val _ rfl (by kernel_rfl) fun _ h => run_loadE rfl rfl ((h.row 1 rfl).cells 1 1) (by kernel_rfl)
            ·exact .call _ #[Str t2.nm] (.bool (isWd t2.nm)) rfl (by kernel_rfl) (fun w => (run_callE en_cantileverref03_Word rfl rfl (by kernel_rfl))) (fun w hM => ref_Wd t2.nm _ (by omega))
            ·exact .val _ rfl (by kernel_rfl) (fun w hM => (okBool (run_neB rfl rfl rfl) h6))
            iterate 3 exact .val _ rfl (by kernel_rfl) fun _ _ => by kernel_rfl
            ·exact .val _ rfl (by kernel_rfl) fun _ h => run_loadE rfl rfl ((h.row 0 rfl).cells 0 1) (by kernel_rfl)
            ·exact .val _ rfl (by kernel_rfl) (fun w hM => (okBool (by kernel_rfl) h7))
            iterate 2 exact .val _ rfl (by kernel_rfl) fun _ _ => by kernel_rfl
            ·exact .val _ rfl (by kernel_rfl) fun _ h => run_loadE rfl rfl ((h.row 1 rfl).cells 1 1) (by kernel_rfl)
            ·exact .val _ rfl (by kernel_rfl) (fun w hM => (okBool (run_neS rfl rfl rfl) h8))
            iterate 4 exact .val _ rfl (by kernel_rfl) fun _ _ => by kernel_rfl
            ·exact .val _ rfl (by kernel_rfl) fun _ h => run_loadE rfl rfl ((h.row 0 rfl).cells 1 1) (by kernel_rfl)
            ·exact .val _ rfl (by kernel_rfl) fun _ _ => by kernel_rfl
            ·exact .val _ rfl (by kernel_rfl) fun _ h => run_loadE rfl rfl ((h.row 1 rfl).cells 2 1) (by kernel_rfl)
            ·exact .call _ #[Str t2.loc] (.bool (isWd t2.loc)) rfl (by kernel_rfl) (fun w => (run_callE en_cantileverref03_Word rfl rfl (by kernel_rfl))) (fun w hM => ref_Wd t2.loc _ (by omega))
            ·exact .val _ rfl (by kernel_rfl) (fun w hM => (okBool (run_neB rfl rfl rfl) h9))
            iterate 3 exact .val _ rfl (by kernel_rfl) fun _ _ => by kernel_rfl
            ·exact .val _ rfl (by kernel_rfl) fun _ h => run_loadE rfl rfl ((h.row 0 rfl).cells 1 1) (by kernel_rfl)
            ·exact .val _ rfl (by kernel_rfl) (fun w hM => (okBool (by kernel_rfl) h10))
            ·exact .val _ rfl (by kernel_rfl) fun _ _ => by kernel_rfl
            iterate 3 exact .skip rfl (by kernel_rfl)
            iterate 4 exact .val _ rfl (by kernel_rfl) fun _ _ => by kernel_rfl
            ·exact .val _ rfl (by kernel_rfl) fun _ h => run_loadE rfl rfl ((h.row 1 rfl).cells 4 1) (by kernel_rfl)
            iterate 2 exact .val _ rfl (by kernel_rfl) fun _ _ => by kernel_rfl
            ·exact .val _ rfl (by kernel_rfl) fun _ h => run_loadE rfl rfl ((h.row 0 rfl).cells 3 1) (by kernel_rfl)
            ·exact .val _ rfl (by kernel_rfl) (fun w hM => (okBool (by kernel_rfl) h19))
            iterate 3 exact .val _ rfl (by kernel_rfl) fun _ _ => by kernel_rfl
            ·exact .val _ rfl (by kernel_rfl) fun _ h => run_loadE rfl rfl ((h.row 0 rfl).cells 4 1) (by kernel_rfl)
            ·exact .val _ rfl (by kernel_rfl) (fun w hM => (okBool (by kernel_rfl) h20))
            iterate 2 exact .val _ rfl (by kernel_rfl) fun _ _ => by kernel_rfl
            ·exact .val _ rfl (by kernel_rfl) fun _ h => run_loadE rfl rfl ((h.row 1 rfl).cells 5 1) (by kernel_rfl)
            ·exact .val _ rfl (by kernel_rfl) fun _ _ => by kernel_rfl
            ·exact .val _ rfl (by kernel_rfl) (fun w hM => (okBool (by kernel_rfl) (decide_eq_true h21)))
            iterate 3 exact .val _ rfl (by kernel_rfl) fun _ _ => by kernel_rfl
            iterate 9 exact .skip rfl (by kernel_rfl)
            ·exact .val _ rfl (by kernel_rfl) fun _ _ => by kernel_rfl
            have e91 : smBad1 t2 = true := by unfold smBad1; rw [h5, h6, h7, h8, h9, h10, h19, h20, (decide_eq_true h21)]; rfl
            exact ⟨rfl, ⟨(by rw [e91]; exact hK.sub ⟨rfl, rfl, rfl, rfl, rfl, rfl, rfl, rfl, trivial⟩), hM⟩⟩
           ·rcases Bool.eq_false_or_eq_true (!(ptEl t2.kind)) with h22 | h22
            ·by_cases h23 : (0 : Int) < ((t2.el.length : Nat) : Int)
             ·refine region_any (F := fun w => Mem w0 w [.row b4 98 (cP t2), .row b3 30 (cS t2)]) hK [some (.bool (ptIs t2.kind)), some (.bool (!(ptIs t2.kind))), sF, some (pA b4 0), some (.bool (ptNm t2.kind)), some (pA b3 1), some (Str t2.nm), some (.bool (isWd t2.nm)), sF, sF, sF, some (pA b4 0), some (.bool (ptNm t2.kind)), sT, sT, some (pA b3 1), some (Str t2.nm), sF, sF, sF, sF, some (pA b4 1), some (.bool (ptLc t2.kind)), some (pA b3 2), some (Str t2.loc), some (.bool (isWd t2.loc)), sF, sF, sF, some (pA b4 1), some (.bool (ptLc t2.kind)), sF, sF, sU, sU, sU, sF, sF, sF, some (pA b3 4), some (.slice t2.A1 t2.es.length t2.c1), some (.int .i64 ((t2.es.length : Nat) : Int)), some (pA b4 3), some (.int .i64 (ptEx t2.kind)), sF, sF, sF, some (pA b4 4), some (.bool (ptTh t2.kind)), sT, sT, some (pA b3 5), some (.slice t2.A2 t2.th.length t2.c2), some (.int .i64 ((t2.th.length : Nat) : Int)), sF, sF, sF, sF, some (pA b4 5), some (.bool (ptEl t2.kind)), sT, sT, some (pA b3 6), some (.slice t2.A3 t2.el.length t2.c3), some (.int .i64 ((t2.el.length : Nat) : Int)), sT, sT, sT] 68 (fun _ _ hb hm => hm.go hb) hM (by kernel_rfl) (by kernel_rfl) ?_ [(91, .bool true), (6, .bool (ptIs t2.kind)), (5, pA b4 0), (4, pA b3 0), (11, .bool true), (2, .bool false), (0, .slice A l.length c), (3, .int .i64 ((i : Nat) : Int))] (by kernel_rfl) fun a w hK hM => ?_
              iterate 68 refine ⟨?_, ?_⟩
              trivial
              iterate 2 exact .val _ rfl (by kernel_rfl) fun _ _ => by kernel_rfl
              ·exact .val _ rfl (by kernel_rfl) (fun w hM => (okBool (by kernel_rfl) h5))
              ·exact .val _ rfl (by kernel_rfl) fun _ _ => by kernel_rfl
              ·exact .val _ rfl (by kernel_rfl) fun _ h => run_loadE rfl rfl ((h.row 0 rfl).cells 0 1) (by kernel_rfl)
              ·exact .val _ rfl (by kernel_rfl) fun _ _ => by kernel_rfl
              ·exact .val _ rfl (by kernel_rfl) fun _ h => run_loadE rfl rfl ((h.row 1 rfl).cells 1 1) (by kernel_rfl)
              ·exact .call _ #[Str t2.nm] (.bool (isWd t2.nm)) rfl (by kernel_rfl) (fun w => (run_callE en_cantileverref03_Word rfl rfl (by kernel_rfl))) (fun w hM => ref_Wd t2.nm _ (by omega))
              ·exact .val _ rfl (by kernel_rfl) (fun w hM => (okBool (run_neB rfl rfl rfl) h6))
              iterate 3 exact .val _ rfl (by kernel_rfl) fun _ _ => by kernel_rfl
              ·exact .val _ rfl (by kernel_rfl) fun _ h => run_loadE rfl rfl ((h.row 0 rfl).cells 0 1) (by kernel_rfl)
              ·exact .val _ rfl (by kernel_rfl) (fun w hM => (okBool (by kernel_rfl) h7))
              iterate 2 exact .val _ rfl (by kernel_rfl) fun _ _ => by kernel_rfl
              ·exact .val _ rfl (by kernel_rfl) fun _ h => run_loadE rfl rfl ((h.row 1 rfl).cells 1 1) (by kernel_rfl)
              ·exact .val _ rfl (by kernel_rfl) (fun w hM => (okBool (run_neS rfl rfl rfl) h8))
              iterate 4 exact .val _ rfl (by kernel_rfl) fun _ _ => by kernel_rfl
              ·exact .val _ rfl (by kernel_rfl) fun _ h => run_loadE rfl rfl ((h.row 0 rfl).cells 1 1) (by kernel_rfl)
              ·exact .val _ rfl (by kernel_rfl) fun _ _ => by kernel_rfl
              ·exact .val _ rfl (by kernel_rfl) fun _ h => run_loadE rfl rfl ((h.row 1 rfl).cells 2 1) (by kernel_rfl)
              ·exact .call _ #[Str t2.loc] (.bool (isWd t2.loc)) rfl (by kernel_rfl) (fun w => (run_callE en_cantileverref03_Word rfl rfl (by kernel_rfl))) (fun w hM => ref_Wd t2.loc _ (by omega))
              ·exact .val _ rfl (by kernel_rfl) (fun w hM => (okBool (run_neB rfl rfl rfl) h9))
              iterate 3 exact .val _ rfl (by kernel_rfl) fun _ _ => by kernel_rfl
              ·exact .val _ rfl (by kernel_rfl) fun _ h => run_loadE rfl rfl ((h.row 0 rfl).cells 1 1) (by kernel_rfl)
              ·exact .val _ rfl (by kernel_rfl) (fun w hM => (okBool (by kernel_rfl) h10))
              ·exact .val _ rfl (by kernel_rfl) fun _ _ => by kernel_rfl
              iterate 3 exact .skip rfl (by kernel_rfl)
              iterate 4 exact .val _ rfl (by kernel_rfl) fun _ _ => by kernel_rfl
              ·exact .val _ rfl (by kernel_rfl) fun _ h => run_loadE rfl rfl ((h.row 1 rfl).cells 4 1) (by kernel_rfl)
              iterate 2 exact .val _ rfl (by kernel_rfl) fun _ _ => by kernel_rfl
              ·exact .val _ rfl (by kernel_rfl) fun _ h => run_loadE rfl rfl ((h.row 0 rfl).cells 3 1) (by kernel_rfl)
              ·exact .val _ rfl (by kernel_rfl) (fun w hM => (okBool (by kernel_rfl) h19))
              iterate 3 exact .val _ rfl (by kernel_rfl) fun _ _ => by kernel_rfl
              ·exact .val _ rfl (by kernel_rfl) fun _ h => run_loadE rfl rfl ((h.row 0 rfl).cells 4 1) (by kernel_rfl)
              ·exact .val _ rfl (by kernel_rfl) (fun w hM => (okBool (by kernel_rfl) h20))
              iterate 2 exact .val _ rfl (by kernel_rfl) fun _ _ => by kernel_rfl
              ·exact .val _ rfl (by kernel_rfl) fun _ h => run_loadE rfl rfl ((h.row 1 rfl).cells 5 1) (by kernel_rfl)
              ·exact .val _ rfl (by kernel_rfl) fun _ _ => by kernel_rfl
              ·exact .val _ rfl (by kernel_rfl) (fun w hM => (okBool (by kernel_rfl) (decide_eq_false h21)))
              iterate 4 exact .val _ rfl (by kernel_rfl) fun _ _ => by kernel_rfl
              ·exact .val _ rfl (by kernel_rfl) fun _ h => run_loadE rfl rfl ((h.row 0 rfl).cells 5 1) (by kernel_rfl)
              ·exact .val _ rfl (by kernel_rfl) (fun w hM => (okBool (by kernel_rfl) h22))
              iterate 2 exact .val _ rfl (by kernel_rfl) fun _ _ => by kernel_rfl
              ·exact .val _ rfl (by kernel_rfl) fun _ h => run_loadE rfl rfl ((h.row 1 rfl).cells 6 1) (by kernel_rfl)
              ·exact .val _ rfl (by kernel_rfl) fun _ _ => by kernel_rfl
              ·exact .val _ rfl (by kernel_rfl) (fun w hM => (okBool (by kernel_rfl) (decide_eq_true h23)))
              iterate 2 exact .val _ rfl (by kernel_rfl) fun _ _ => by kernel_rfl
              have e91 : smBad1 t2 = true := by unfold smBad1; rw [h5, h6, h7, h8, h9, h10, h19, h20, (decide_eq_false h21), h22, (decide_eq_true h23)]; rfl
              exact ⟨rfl, ⟨(by rw [e91]; exact hK.sub ⟨rfl, rfl, rfl, rfl, rfl, rfl, rfl, rfl, trivial⟩), hM⟩⟩
             ·refine region_any (F := fun w => Mem w0 w [.row b4 98 (cP t2), .row b3 30 (cS t2)]) hK [some (.bool (ptIs t2.kind)), some (.bool (!(ptIs t2.kind))), sF, some (pA b4 0), some (.bool (ptNm t2.kind)), some (pA b3 1), some (Str t2.nm), some (.bool (isWd t2.nm)), sF, sF, sF, some (pA b4 0), some (.bool (ptNm t2.kind)), sT, sT, some (pA b3 1), some (Str t2.nm), sF, sF, sF, sF, some (pA b4 1), some (.bool (ptLc t2.kind)), some (pA b3 2), some (Str t2.loc), some (.bool (isWd t2.loc)), sF, sF, sF, some (pA b4 1), some (.bool (ptLc t2.kind)), sF, sF, sU, sU, sU, sF, sF, sF, some (pA b3 4), some (.slice t2.A1 t2.es.length t2.c1), some (.int .i64 ((t2.es.length : Nat) : Int)), some (pA b4 3), some (.int .i64 (ptEx t2.kind)), sF, sF, sF, some (pA b4 4), some (.bool (ptTh t2.kind)), sT, sT, some (pA b3 5), some (.slice t2.A2 t2.th.length t2.c2), some (.int .i64 ((t2.th.length : Nat) : Int)), sF, sF, sF, sF, some (pA b4 5), some (.bool (ptEl t2.kind)), sT, sT, some (pA b3 6), some (.slice t2.A3 t2.el.length t2.c3), some (.int .i64 ((t2.el.length : Nat) : Int)), sF, sF, sF] 68 (fun _ _ hb hm => hm.go hb) hM (by kernel_rfl) (by kernel_rfl) ?_ [(91, .bool false), (6, .bool (ptIs t2.kind)), (5, pA b4 0), (4, pA b3 0), (11, .bool true), (2, .bool false), (0, .slice A l.length c), (3, .int .i64 ((i : Nat) : Int))] (by kernel_rfl) fun a w hK hM => ?_
              iterate 68 refine ⟨?_, ?_⟩
              trivial
              iterate 2 exact .val _ rfl (by kernel_rfl) fun _ _ => by kernel_rfl
              ·exact .val _ rfl (by kernel_rfl) (fun w hM => (okBool (by kernel_rfl) h5))
              ·exact .val _ rfl (by kernel_rfl) fun _ _ => by kernel_rfl
              ·exact .val _ rfl (by kernel_rfl) fun _ h => run_loadE rfl rfl ((h.row 0 rfl).cells 0 1) (by kernel_rfl)
              ·exact .val _ rfl (by kernel_rfl) fun _ _ => by kernel_rfl
              ·exact .val _ rfl (by kernel_rfl) fun _ h => run_loadE rfl rfl ((h.row 1 rfl).cells 1 1) (by kernel_rfl)
              ·exact .call _ #[Str t2.nm] (.bool (isWd t2.nm)) rfl (by kernel_rfl) (fun w => (run_callE en_cantileverref03_Word rfl rfl (by kernel_rfl))) (fun w hM => ref_Wd t2.nm _ (by omega))
              ·exact .val _ rfl (by kernel_rfl) (fun w hM => (okBool (run_neB rfl rfl rfl) h6))
              iterate 3 exact .val _ rfl (by kernel_rfl) fun _ _ => by kernel_rfl
              ·exact .val _ rfl (by kernel_rfl) fun _ h => run_loadE rfl rfl ((h.row 0 rfl).cells 0 1) (by kernel_rfl)
              ·exact .val _ rfl (by kernel_rfl) (fun w hM => (okBool (by kernel_rfl) h7))
              iterate 2 exact .val _ rfl (by kernel_rfl) fun _ _ => by kernel_rfl
              ·exact .val _ rfl (by kernel_rfl) fun _ h => run_loadE rfl rfl ((h.row 1 rfl).cells 1 1) (by kernel_rfl)
              ·exact .val _ rfl (by kernel_rfl) (fun w hM => (okBool (run_neS rfl rfl rfl) h8))
              iterate 4 exact .val _ rfl (by kernel_rfl) fun _ _ => by kernel_rfl
              ·exact .val _ rfl (by kernel_rfl) fun _ h => run_loadE rfl rfl ((h.row 0 rfl).cells 1 1) (by kernel_rfl)
              ·exact .val _ rfl (by kernel_rfl) fun _ _ => by kernel_rfl
              ·exact .val _ rfl (by kernel_rfl) fun _ h => run_loadE rfl rfl ((h.row 1 rfl).cells 2 1) (by kernel_rfl)
              ·exact .call _ #[Str t2.loc] (.bool (isWd t2.loc)) rfl (by kernel_rfl) (fun w => (run_callE en_cantileverref03_Word rfl rfl (by kernel_rfl))) (fun w hM => ref_Wd t2.loc _ (by omega))
              ·exact .val _ rfl (by kernel_rfl) (fun w hM => (okBool (run_neB rfl rfl rfl) h9))
              iterate 3 exact .val _ rfl (by kernel_rfl) fun _ _ => by kernel_rfl
              ·exact .val _ rfl (by kernel_rfl) fun _ h => run_loadE rfl rfl ((h.row 0 rfl).cells 1 1) (by kernel_rfl)
              ·exact .val _ rfl (by kernel_rfl) (fun w hM => (okBool (by kernel_rfl) h10))
              ·exact .val _ rfl (by kernel_rfl) fun _ _ => by kernel_rfl
              iterate 3 exact .skip rfl (by kernel_rfl)
              iterate 4 exact .val _ rfl (by kernel_rfl) fun _ _ => by kernel_rfl
              ·exact .val _ rfl (by kernel_rfl) fun _ h => run_loadE rfl rfl ((h.row 1 rfl).cells 4 1) (by kernel_rfl)
              iterate 2 exact .val _ rfl (by kernel_rfl) fun _ _ => by kernel_rfl
              ·exact .val _ rfl (by kernel_rfl) fun _ h => run_loadE rfl rfl ((h.row 0 rfl).cells 3 1) (by kernel_rfl)
              ·exact .val _ rfl (by kernel_rfl) (fun w hM => (okBool (by kernel_rfl) h19))
              iterate 3 exact .val _ rfl (by kernel_rfl) fun _ _ => by kernel_rfl
              ·exact .val _ rfl (by kernel_rfl) fun _ h => run_loadE rfl rfl ((h.row 0 rfl).cells 4 1) (by kernel_rfl)
              ·exact .val _ rfl (by kernel_rfl) (fun w hM => (okBool (by kernel_rfl) h20))
              iterate 2 exact .val _ rfl (by kernel_rfl) fun _ _ => by kernel_rfl
              ·exact .val _ rfl (by kernel_rfl) fun _ h => run_loadE rfl rfl ((h.row 1 rfl).cells 5 1) (by kernel_rfl)
              ·exact .val _ rfl (by kernel_rfl) fun _ _ => by kernel_rfl
              ·exact .val _ rfl (by kernel_rfl) (fun w hM => (okBool (by kernel_rfl) (decide_eq_false h21)))
              iterate 4 exact .val _ rfl (by kernel_rfl) fun _ _ => by kernel_rfl
              ·exact .val _ rfl (by kernel_rfl) fun _ h => run_loadE rfl rfl ((h.row 0 rfl).cells 5 1) (by kernel_rfl)
              ·exact .val _ rfl (by kernel_rfl) (fun w hM => (okBool (by kernel_rfl) h22))
              iterate 2 exact .val _ rfl (by kernel_rfl) fun _ _ => by kernel_rfl
              ·exact .val _ rfl (by kernel_rfl) fun _ h => run_loadE rfl rfl ((h.row 1 rfl).cells 6 1) (by kernel_rfl)
              ·exact .val _ rfl (by kernel_rfl) fun _ _ => by kernel_rfl
              ·exact .val _ rfl (by kernel_rfl) (fun w hM => (okBool (by kernel_rfl) (decide_eq_false h23)))
              iterate 2 exact .val _ rfl (by kernel_rfl) fun _ _ => by kernel_rfl
              have e91 : smBad1 t2 = false := by unfold smBad1; rw [h5, h6, h7, h8, h9, h10, h19, h20, (decide_eq_false h21), h22, (decide_eq_false h23)]; rfl
              exact ⟨rfl, ⟨(by rw [e91]; exact hK.sub ⟨rfl, rfl, rfl, rfl, rfl, rfl, rfl, rfl, trivial⟩), hM⟩⟩
            ·refine region_any (F := fun w => Mem w0 w [.row b4 98 (cP t2), .row b3 30 (cS t2)]) hK [some (.bool (ptIs t2.kind)), some (.bool (!(ptIs t2.kind))), sF, some (pA b4 0), some (.bool (ptNm t2.kind)), some (pA b3 1), some (Str t2.nm), some (.bool (isWd t2.nm)), sF, sF, sF, some (pA b4 0), some (.bool (ptNm t2.kind)), sT, sT, some (pA b3 1), some (Str t2.nm), sF, sF, sF, sF, some (pA b4 1), some (.bool (ptLc t2.kind)), some (pA b3 2), some (Str t2.loc), some (.bool (isWd t2.loc)), sF, sF, sF, some (pA b4 1), some (.bool (ptLc t2.kind)), sF, sF, sU, sU, sU, sF, sF, sF, some (pA b3 4), some (.slice t2.A1 t2.es.length t2.c1), some (.int .i64 ((t2.es.length : Nat) : Int)), some (pA b4 3), some (.int .i64 (ptEx t2.kind)), sF, sF, sF, some (pA b4 4), some (.bool (ptTh t2.kind)), sT, sT, some (pA b3 5), some (.slice t2.A2 t2.th.length t2.c2), some (.int .i64 ((t2.th.length : Nat) : Int)), sF, sF, sF, sF, some (pA b4 5), some (.bool (ptEl t2.kind)), sF, sF, sU, sU, sU, sU, sF, sF] 68 (fun _ _ hb hm => hm.go hb) hM (by kernel_rfl) (by kernel_rfl) ?_ [(91, .bool false), (6, .bool (ptIs t2.kind)), (5, pA b4 0), (4, pA b3 0), (11, .bool true), (2, .bool false), (0, .slice A l.length c), (3, .int .i64 ((i : Nat) : Int))] (by kernel_rfl) fun a w hK hM => ?_
             iterate 68 refine ⟨?_, ?_⟩
             trivial
             iterate 2 exact .val _ rfl (by kernel_rfl) fun _ _ => by kernel_rfl
             ·exact .val _ rfl (by kernel_rfl) (fun w hM => (okBool (by kernel_rfl) h5))
             ·exact .val _ rfl (by kernel_rfl) fun _ _ => by kernel_rfl
             ·exact .val _ rfl (by kernel_rfl) fun _ h => run_loadE rfl rfl ((h.row 0 rfl).cells 0 1) (by kernel_rfl)
             ·exact .val _ rfl (by kernel_rfl) fun _ _ => by kernel_rfl
             ·exact .val _ rfl (by kernel_rfl) fun _ h => run_loadE rfl rfl ((h.row 1 rfl).cells 1 1) (by kernel_rfl)
             ·exact .call _ #[Str t2.nm] (.bool (isWd t2.nm)) rfl (by kernel_rfl) (fun w => (run_callE en_cantileverref03_Word rfl rfl (by kernel_rfl))) (fun w hM => ref_Wd t2.nm _ (by omega))
             ·exact .val _ rfl (by kernel_rfl) (fun w hM => (okBool (run_neB rfl rfl rfl) h6))
             iterate 3 exact .val _ rfl (by kernel_rfl) fun _ _ => by kernel_rfl
             ·exact .val _ rfl (by kernel_rfl) fun _ h => run_loadE rfl rfl ((h.row 0 rfl).cells 0 1) (by kernel_rfl)
             ·exact .val _ rfl (by kernel_rfl) (fun w hM => (okBool (by kernel_rfl) h7))
             iterate 2 exact .val _ rfl (by kernel_rfl) fun _ _ => by kernel_rfl
             ·exact .val _ rfl (by kernel_rfl) fun _ h => run_loadE rfl rfl ((h.row 1 rfl).cells 1 1) (by kernel_rfl)
             ·exact .val _ rfl (by kernel_rfl) (fun w hM => (okBool (run_neS rfl rfl rfl) h8))
             iterate 4 exact .val _ rfl (by kernel_rfl) fun _ _ => by kernel_rfl
             ·exact .val _ rfl (by kernel_rfl) fun _ h => run_loadE rfl rfl ((h.row 0 rfl).cells 1 1) (by kernel_rfl)
             ·exact .val _ rfl (by kernel_rfl) fun _ _ => by kernel_rfl
             ·exact .val _ rfl (by kernel_rfl) fun _ h => run_loadE rfl rfl ((h.row 1 rfl).cells 2 1) (by kernel_rfl)
             ·exact .call _ #[Str t2.loc] (.bool (isWd t2.loc)) rfl (by kernel_rfl) (fun w => (run_callE en_cantileverref03_Word rfl rfl (by kernel_rfl))) (fun w hM => ref_Wd t2.loc _ (by omega))
             ·exact .val _ rfl (by kernel_rfl) (fun w hM => (okBool (run_neB rfl rfl rfl) h9))
             iterate 3 exact .val _ rfl (by kernel_rfl) fun _ _ => by kernel_rfl
             ·exact .val _ rfl (by kernel_rfl) fun _ h => run_loadE rfl rfl ((h.row 0 rfl).cells 1 1) (by kernel_rfl)
             ·exact .val _ rfl (by kernel_rfl) (fun w hM => (okBool (by kernel_rfl) h10))
             ·exact .val _ rfl (by kernel_rfl) fun _ _ => by kernel_rfl
             iterate 3 exact .skip rfl (by kernel_rfl)
             iterate 4 exact .val _ rfl (by kernel_rfl) fun _ _ => by kernel_rfl
             ·exact .val _ rfl (by kernel_rfl) fun _ h => run_loadE rfl rfl ((h.row 1 rfl).cells 4 1) (by kernel_rfl)
             iterate 2 exact .val _ rfl (by kernel_rfl) fun _ _ => by kernel_rfl
             ·exact .val _ rfl (by kernel_rfl) fun _ h => run_loadE rfl rfl ((h.row 0 rfl).cells 3 1) (by kernel_rfl)
             ·exact .val _ rfl (by kernel_rfl) (fun w hM => (okBool (by kernel_rfl) h19))
             iterate 3 exact .val _ rfl (by kernel_rfl) fun _ _ => by kernel_rfl
             ·exact .val _ rfl (by kernel_rfl) fun _ h => run_loadE rfl rfl ((h.row 0 rfl).cells 4 1) (by kernel_rfl)
             ·exact .val _ rfl (by kernel_rfl) (fun w hM => (okBool (by kernel_rfl) h20))
             iterate 2 exact .val _ rfl (by kernel_rfl) fun _ _ => by kernel_rfl
             ·exact .val _ rfl (by kernel_rfl) fun _ h => run_loadE rfl rfl ((h.row 1 rfl).cells 5 1) (by kernel_rfl)
             ·exact .val _ rfl (by kernel_rfl) fun _ _ => by kernel_rfl
             ·exact .val _ rfl (by kernel_rfl) (fun w hM => (okBool (by kernel_rfl) (decide_eq_false h21)))
             iterate 4 exact .val _ rfl (by kernel_rfl) fun _ _ => by kernel_rfl
             ·exact .val _ rfl (by kernel_rfl) fun _ h => run_loadE rfl rfl ((h.row 0 rfl).cells 5 1) (by kernel_rfl)
             ·exact .val _ rfl (by kernel_rfl) (fun w hM => (okBool (by kernel_rfl) h22))
             ·exact .val _ rfl (by kernel_rfl) fun _ _ => by kernel_rfl
             iterate 4 exact .skip rfl (by kernel_rfl)
             iterate 2 exact .val _ rfl (by kernel_rfl) fun _ _ => by kernel_rfl
             have e91 : smBad1 t2 = false := by unfold smBad1; rw [h5, h6, h7, h8, h9, h10, h19, h20, (decide_eq_false h21), h22]; rfl
             exact ⟨rfl, ⟨(by rw [e91]; exact hK.sub ⟨rfl, rfl, rfl, rfl, rfl, rfl, rfl, rfl, trivial⟩), hM⟩⟩
          ·rcases Bool.eq_false_or_eq_true (!(ptEl t2.kind)) with h24 | h24
           ·by_cases h25 : (0 : Int) < ((t2.el.length : Nat) : Int)
            ·refine region_any (F := fun w => Mem w0 w [.row b4 98 (cP t2), .row b3 30 (cS t2)]) hK [some (.bool (ptIs t2.kind)), some (.bool (!(ptIs t2.kind))), sF, some (pA b4 0), some (.bool (ptNm t2.kind)), some (pA b3 1), some (Str t2.nm), some (.bool (isWd t2.nm)), sF, sF, sF, some (pA b4 0), some (.bool (ptNm t2.kind)), sT, sT, some (pA b3 1), some (Str t2.nm), sF, sF, sF, sF, some (pA b4 1), some (.bool (ptLc t2.kind)), some (pA b3 2), some (Str t2.loc), some (.bool (isWd t2.loc)), sF, sF, sF, some (pA b4 1), some (.bool (ptLc t2.kind)), sF, sF, sU, sU, sU, sF, sF, sF, some (pA b3 4), some (.slice t2.A1 t2.es.length t2.c1), some (.int .i64 ((t2.es.length : Nat) : Int)), some (pA b4 3), some (.int .i64 (ptEx t2.kind)), sF, sF, sF, some (pA b4 4), some (.bool (ptTh t2.kind)), sF, sF, sU, sU, sU, sU, sF, sF, sF, some (pA b4 5), some (.bool (ptEl t2.kind)), sT, sT, some (pA b3 6), some (.slice t2.A3 t2.el.length t2.c3), some (.int .i64 ((t2.el.length : Nat) : Int)), sT, sT, sT] 68 (fun _ _ hb hm => hm.go hb) hM (by kernel_rfl) (by kernel_rfl) ?_ [(91, .bool true), (6, .bool (ptIs t2.kind)), (5, pA b4 0), (4, pA b3 0), (11, .bool true), (2, .bool false), (0, .slice A l.length c), (3, .int .i64 ((i : Nat) : Int))] (by kernel_rfl) fun a w hK hM => ?_
             iterate 68 refine ⟨?_, ?_⟩
             trivial
             iterate 2 exact .val _ rfl (by kernel_rfl) fun _ _ => by kernel_rfl
             ·exact .val _ rfl (by kernel_rfl) (fun w hM => (okBool (by kernel_rfl) h5))
             ·exact .val _ rfl (by kernel_rfl) fun _ _ => by kernel_rfl
             ·exact .val _ rfl (by kernel_rfl) fun _ h => run_loadE rfl rfl ((h.row 0 rfl).cells 0 1) (by kernel_rfl)
             ·exact .val _ rfl (by kernel_rfl) fun _ _ => by kernel_rfl
             ·exact .val _ rfl (by kernel_rfl) fun _ h => run_loadE rfl rfl ((h.row 1 rfl).cells 1 1) (by kernel_rfl)
             ·exact .call _ #[Str t2.nm] (.bool (isWd t2.nm)) rfl (by kernel_rfl) (fun w => (run_callE en_cantileverref03_Word rfl rfl (by kernel_rfl))) (fun w hM => ref_Wd t2.nm _ (by omega))
             ·exact .val _ rfl (by kernel_rfl) (fun w hM => (okBool (run_neB rfl rfl rfl) h6))
             iterate 3 exact .val _ rfl (by kernel_rfl) fun _ _ => by kernel_rfl
             ·exact .val _ rfl (by kernel_rfl) fun _ h => run_loadE rfl rfl ((h.row 0 rfl).cells 0 1) (by kernel_rfl)
             ·exact .val _ rfl (by kernel_rfl) (fun w hM => (okBool (by kernel_rfl) h7))
             iterate 2 exact .val _ rfl (by kernel_rfl) fun _ _ => by kernel_rfl
             ·exact .val _ rfl (by kernel_rfl) fun _ h => run_loadE rfl rfl ((h.row 1 rfl).cells 1 1) (by kernel_rfl)
             ·exact .val _ rfl (by kernel_rfl) (fun w hM => (okBool (run_neS rfl rfl rfl) h8))
             iterate 4 exact .val _ rfl (by kernel_rfl) fun _ _ => by kernel_rfl
             ·exact .val _ rfl (by kernel_rfl) fun _ h => run_loadE rfl rfl ((h.row 0 rfl).cells 1 1) (by kernel_rfl)
             ·exact .val _ rfl (by kernel_rfl) fun _ _ => by kernel_rfl
             ·exact .val _ rfl (by kernel_rfl) fun _ h => run_loadE rfl rfl ((h.row 1 rfl).cells 2 1) (by kernel_rfl)
             ·exact .call _ #[Str t2.loc] (.bool (isWd t2.loc)) rfl (by kernel_rfl) (fun w => (run_callE en_cantileverref03_Word rfl rfl (by kernel_rfl))) (fun w hM => ref_Wd t2.loc _ (by omega))
             ·exact .val _ rfl (by kernel_rfl) (fun w hM => (okBool (run_neB rfl rfl rfl) h9))
             iterate 3 exact .val _ rfl (by kernel_rfl) fun _ _ => by kernel_rfl
             ·exact .val _ rfl (by kernel_rfl) fun _ h => run_loadE rfl rfl ((h.row 0 rfl).cells 1 1) (by kernel_rfl)
             ·exact .val _ rfl (by kernel_rfl) (fun w hM => (okBool (by kernel_rfl) h10))
             ·exact .val _ rfl (by kernel_rfl) fun _ _ => by kernel_rfl
             iterate 3 exact .skip rfl (by kernel_rfl)
             iterate 4 exact .val _ rfl (by kernel_rfl) fun _ _ => by kernel_rfl
             ·exact .val _ rfl (by kernel_rfl) fun _ h => run_loadE rfl rfl ((h.row 1 rfl).cells 4 1) (by kernel_rfl)
             iterate 2 exact .val _ rfl (by kernel_rfl) fun _ _ => by kernel_rfl
             ·exact .val _ rfl (by kernel_rfl) fun _ h => run_loadE rfl rfl ((h.row 0 rfl).cells 3 1) (by kernel_rfl)
             ·exact .val _ rfl (by kernel_rfl) (fun w hM => (okBool (by kernel_rfl) h19))
             iterate 3 exact .val _ rfl (by kernel_rfl) fun _ _ => by kernel_rfl
             ·exact .val _ rfl (by kernel_rfl) fun _ h => run_loadE rfl rfl ((h.row 0 rfl).cells 4 1) (by kernel_rfl)
             ·exact .val _ rfl (by kernel_rfl) (fun w hM => (okBool (by kernel_rfl) h20))
             ·exact .val _ rfl (by kernel_rfl) fun _ _ => by kernel_rfl
             iterate 4 exact .skip rfl (by kernel_rfl)
             iterate 4 exact .val _ rfl (by kernel_rfl) fun _ _ => by kernel_rfl
             ·exact .val _ rfl (by kernel_rfl) fun _ h => run_loadE rfl rfl ((h.row 0 rfl).cells 5 1) (by kernel_rfl)
             ·exact .val _ rfl (by kernel_rfl) (fun w hM => (okBool (by kernel_rfl) h24))
             iterate 2 exact .val _ rfl (by kernel_rfl) fun _ _ => by kernel_rfl
             ·exact .val _ rfl (by kernel_rfl) fun _ h => run_loadE rfl rfl ((h.row 1 rfl).cells 6 1) (by kernel_rfl)
             ·exact .val _ rfl (by kernel_rfl) fun _ _ => by kernel_rfl
             ·exact .val _ rfl (by kernel_rfl) (fun w hM => (okBool (by kernel_rfl) (decide_eq_true h25)))
             iterate 2 exact .val _ rfl (by kernel_rfl) fun _ _ => by kernel_rfl
             have e91 : smBad1 t2 = true := by unfold smBad1; rw [h5, h6, h7, h8, h9, h10, h19, h20, h24, (decide_eq_true h25)]; rfl
             exact ⟨rfl, ⟨(by rw [e91]; exact hK.sub ⟨rfl, rfl, rfl, rfl, rfl, rfl, rfl, rfl, trivial⟩), hM⟩⟩
            ·refine region_any (F := fun w => Mem w0 w [.row b4 98 (cP t2), .row b3 30 (cS t2)]) hK [some (.bool (ptIs t2.kind)), some (.bool (!(ptIs t2.kind))), sF, some (pA b4 0), some (.bool (ptNm t2.kind)), some (pA b3 1), some (Str t2.nm), some (.bool (isWd t2.nm)), sF, sF, sF, some (pA b4 0), some (.bool (ptNm t2.kind)), sT, sT, some (pA b3 1), some (Str t2.nm), sF, sF, sF, sF, some (pA b4 1), some (.bool (ptLc t2.kind)), some (pA b3 2), some (Str t2.loc), some (.bool (isWd t2.loc)), sF, sF, sF, some (pA b4 1), some (.bool (ptLc t2.kind)), sF, sF, sU, sU, sU, sF, sF, sF, some (pA b3 4), some (.slice t2.A1 t2.es.length t2.c1), some (.int .i64 ((t2.es.length : Nat) : Int)), some (pA b4 3), some (.int .i64 (ptEx t2.kind)), sF, sF, sF, some (pA b4 4), some (.bool (ptTh t2.kind)), sF, sF, sU, sU, sU, sU, sF, sF, sF, some (pA b4 5), some (.bool (ptEl t2.kind)), sT, sT, some (pA b3 6), some (.slice t2.A3 t2.el.length t2.c3), some (.int .i64 ((t2.el.length : Nat) : Int)), sF, sF, sF] 68 (fun _ _ hb hm => hm.go hb) hM (by kernel_rfl) (by kernel_rfl) ?_ [(91, .bool false), (6, .bool (ptIs t2.kind)), (5, pA b4 0), (4, pA b3 0), (11, .bool true), (2, .bool false), (0, .slice A l.length c), (3, .int .i64 ((i : Nat) : Int))] (by kernel_rfl) fun a w hK hM => ?_
             iterate 68 refine ⟨?_, ?_⟩
             trivial
             iterate 2 exact .val _ rfl (by kernel_rfl) fun _ _ => by kernel_rfl
             ·exact .val _ rfl (by kernel_rfl) (fun w hM => (okBool (by kernel_rfl) h5))
             ·exact .val _ rfl (by kernel_rfl) fun _ _ => by kernel_rfl
             ·exact .val _ rfl (by kernel_rfl) fun _ h => run_loadE rfl rfl ((h.row 0 rfl).cells 0 1) (by kernel_rfl)
             ·exact .val _ rfl (by kernel_rfl) fun _ _ => by kernel_rfl
             ·exact .val _ rfl (by kernel_rfl) fun _ h => run_loadE rfl rfl ((h.row 1 rfl).cells 1 1) (by kernel_rfl)
             ·exact .call _ #[Str t2.nm] (.bool (isWd t2.nm)) rfl (by kernel_rfl) (fun w => (run_callE en_cantileverref03_Word rfl rfl (by kernel_rfl))) (fun w hM => ref_Wd t2.nm _ (by omega))
             ·exact .val _ rfl (by kernel_rfl) (fun w hM => (okBool (run_neB rfl rfl rfl) h6))
             iterate 3 exact .val _ rfl (by kernel_rfl) fun _ _ => by kernel_rfl
             ·exact .val _ rfl (by kernel_rfl) fun _ h => run_loadE rfl rfl ((h.row 0 rfl).cells 0 1) (by kernel_rfl)
             ·exact .val _ rfl (by kernel_rfl) (fun w hM => (okBool (by kernel_rfl) h7))
             iterate 2 exact .val _ rfl (by kernel_rfl) fun _ _ => by kernel_rfl
             ·exact .val _ rfl (by kernel_rfl) fun _ h => run_loadE rfl rfl ((h.row 1 rfl).cells 1 1) (by kernel_rfl)
             ·exact .val _ rfl (by kernel_rfl) (fun w hM => (okBool (run_neS rfl rfl rfl) h8))
             iterate 4 exact .val _ rfl (by kernel_rfl) fun _ _ => by kernel_rfl
             ·exact .val _ rfl (by kernel_rfl) fun _ h => run_loadE rfl rfl ((h.row 0 rfl).cells 1 1) (by kernel_rfl)
             ·exact .val _ rfl (by kernel_rfl) fun _ _ => by kernel_rfl
             ·exact .val _ rfl (by kernel_rfl) fun _ h => run_loadE rfl rfl ((h.row 1 rfl).cells 2 1) (by kernel_rfl)
             ·exact .call _ #[Str t2.loc] (.bool (isWd t2.loc)) rfl (by kernel_rfl) (fun w => (run_callE en_cantileverref03_Word rfl rfl (by kernel_rfl))) (fun w hM => ref_Wd t2.loc _ (by omega))
             ·exact .val _ rfl (by kernel_rfl) (fun w hM => (okBool (run_neB rfl rfl rfl) h9))
             iterate 3 exact .val _ rfl (by kernel_rfl) fun _ _ => by kernel_rfl
             ·exact .val _ rfl (by kernel_rfl) fun _ h => run_loadE rfl rfl ((h.row 0 rfl).cells 1 1) (by kernel_rfl)
             ·exact .val _ rfl (by kernel_rfl) (fun w hM => (okBool (by kernel_rfl) h10))
             ·exact .val _ rfl (by kernel_rfl) fun _ _ => by kernel_rfl
             iterate 3 exact .skip rfl (by kernel_rfl)
             iterate 4 exact .val _ rfl (by kernel_rfl) fun _ _ => by kernel_rfl
             ·exact .val _ rfl (by kernel_rfl) fun _ h => run_loadE rfl rfl ((h.row 1 rfl).cells 4 1) (by kernel_rfl)
             iterate 2 exact .val _ rfl (by kernel_rfl) fun _ _ => by kernel_rfl
             ·exact .val _ rfl (by kernel_rfl) fun _ h => run_loadE rfl rfl ((h.row 0 rfl).cells 3 1) (by kernel_rfl)
             ·exact .val _ rfl (by kernel_rfl) (fun w hM => (okBool (by kernel_rfl) h19))
             iterate 3 exact .val _ rfl (by kernel_rfl) fun _ _ => by kernel_rfl
             ·exact .val _ rfl (by kernel_rfl) fun _ h => run_loadE rfl rfl ((h.row 0 rfl).cells 4 1) (by kernel_rfl)
             ·exact .val _ rfl (by kernel_rfl) (fun w hM => (okBool (by kernel_rfl) h20))
             ·exact .val _ rfl (by kernel_rfl) fun _ _ => by kernel_rfl
             iterate 4 exact .skip rfl (by kernel_rfl)
             iterate 4 exact .val _ rfl (by kernel_rfl) fun _ _ => by kernel_rfl
             ·exact .val _ rfl (by kernel_rfl) fun _ h => run_loadE rfl rfl ((h.row 0 rfl).cells 5 1) (by kernel_rfl)
             ·exact .val _ rfl (by kernel_rfl) (fun w hM => (okBool (by kernel_rfl) h24))
             iterate 2 exact .val _ rfl (by kernel_rfl) fun _ _ => by kernel_rfl
             ·exact .val _ rfl (by kernel_rfl) fun _ h => run_loadE rfl rfl ((h.row 1 rfl).cells 6 1) (by kernel_rfl)
             ·exact .val _ rfl (by kernel_rfl) fun _ _ => by kernel_rfl
             ·exact .val _ rfl (by kernel_rfl) (fun w hM => (okBool (by kernel_rfl) (decide_eq_false h25)))
             iterate 2 exact .val _ rfl (by kernel_rfl) fun _ _ => by kernel_rfl
             have e91 : smBad1 t2 = false := by unfold smBad1; rw [h5, h6, h7, h8, h9, h10, h19, h20, h24, (decide_eq_false h25)]; rfl
             exact ⟨rfl, ⟨(by rw [e91]; exact hK.sub ⟨rfl, rfl, rfl, rfl, rfl, rfl, rfl, rfl, trivial⟩), hM⟩⟩
           ·refine region_any (F := fun w => Mem w0 w [.row b4 98 (cP t2), .row b3 30 (cS t2)]) hK [some (.bool (ptIs t2.kind)), some (.bool (!(ptIs t2.kind))), sF, some (pA b4 0), some (.bool (ptNm t2.kind)), some (pA b3 1), some (Str t2.nm), some (.bool (isWd t2.nm)), sF, sF, sF, some (pA b4 0), some (.bool (ptNm t2.kind)), sT, sT, some (pA b3 1), some (Str t2.nm), sF, sF, sF, sF, some (pA b4 1), some (.bool (ptLc t2.kind)), some (pA b3 2), some (Str t2.loc), some (.bool (isWd t2.loc)), sF, sF, sF, some (pA b4 1), some (.bool (ptLc t2.kind)), sF, sF, sU, sU, sU, sF, sF, sF, some (pA b3 4), some (.slice t2.A1 t2.es.length t2.c1), some (.int .i64 ((t2.es.length : Nat) : Int)), some (pA b4 3), some (.int .i64 (ptEx t2.kind)), sF, sF, sF, some (pA b4 4), some (.bool (ptTh t2.kind)), sF, sF, sU, sU, sU, sU, sF, sF, sF, some (pA b4 5), some (.bool (ptEl t2.kind)), sF, sF, sU, sU, sU, sU, sF, sF] 68 (fun _ _ hb hm => hm.go hb) hM (by kernel_rfl) (by kernel_rfl) ?_ [(91, .bool false), (6, .bool (ptIs t2.kind)), (5, pA b4 0), (4, pA b3 0), (11, .bool true), (2, .bool false), (0, .slice A l.length c), (3, .int .i64 ((i : Nat) : Int))] (by kernel_rfl) fun a w hK hM => ?_
            iterate 68 refine ⟨?_, ?_⟩
            trivial
            iterate 2 exact .val _ rfl (by kernel_rfl) fun _ _ => by kernel_rfl
            ·exact .val _ rfl (by kernel_rfl) (fun w hM => (okBool (by kernel_rfl) h5))
            ·exact .val _ rfl (by kernel_rfl) fun _ _ => by kernel_rfl
            ·exact .val _ rfl (by kernel_rfl) fun _ h => run_loadE rfl rfl ((h.row 0 rfl).cells 0 1) (by kernel_rfl)
            ·exact .val _ rfl (by kernel_rfl) fun _ _ => by kernel_rfl
            ·exact .val _ rfl (by kernel_rfl) fun _ h => run_loadE rfl rfl ((h.row 1 rfl).cells 1 1) (by kernel_rfl)
            ·exact .call _ #[Str t2.nm] (.bool (isWd t2.nm)) rfl (by kernel_rfl) (fun w => (run_callE en_cantileverref03_Word rfl rfl (by kernel_rfl))) (fun w hM => ref_Wd t2.nm _ (by omega))
            ·exact .val _ rfl (by kernel_rfl) (fun w hM => (okBool (run_neB rfl rfl rfl) h6))
            iterate 3 exact .val _ rfl (by kernel_rfl) fun _ _ => by kernel_rfl
            ·exact .val _ rfl (by kernel_rfl) fun _ h => run_loadE rfl rfl ((h.row 0 rfl).cells 0 1) (by kernel_rfl)
            ·exact .val _ rfl (by kernel_rfl) (fun w hM => (okBool (by kernel_rfl) h7))
            iterate 2 exact .val _ rfl (by kernel_rfl) fun _ _ => by kernel_rfl
            ·exact .val _ rfl (by kernel_rfl) fun _ h => run_loadE rfl rfl ((h.row 1 rfl).cells 1 1) (by kernel_rfl)
            ·exact .val _ rfl (by kernel_rfl) (fun w hM => (okBool (run_neS rfl rfl rfl) h8))
            iterate 4 exact .val _ rfl (by kernel_rfl) fun _ _ => by kernel_rfl
            ·exact .val _ rfl (by kernel_rfl) fun _ h => run_loadE rfl rfl ((h.row 0 rfl).cells 1 1) (by kernel_rfl)
            ·exact .val _ rfl (by kernel_rfl) fun _ _ => by kernel_rfl
            ·exact .val _ rfl (by kernel_rfl) fun _ h => run_loadE rfl rfl ((h.row 1 rfl).cells 2 1) (by kernel_rfl)
            ·exact .call _ #[Str t2.loc] (.bool (isWd t2.loc)) rfl (by kernel_rfl) (fun w => (run_callE en_cantileverref03_Word rfl rfl (by kernel_rfl))) (fun w hM => ref_Wd t2.loc _ (by omega))
            ·exact .val _ rfl (by kernel_rfl) (fun w hM => (okBool (run_neB rfl rfl rfl) h9))
            iterate 3 exact .val _ rfl (by kernel_rfl) fun _ _ => by kernel_rfl
            ·exact .val _ rfl (by kernel_rfl) fun _ h => run_loadE rfl rfl ((h.row 0 rfl).cells 1 1) (by kernel_rfl)
            ·exact .val _ rfl (by kernel_rfl) (fun w hM => (okBool (by kernel_rfl) h10))
            ·exact .val _ rfl (by kernel_rfl) fun _ _ => by kernel_rfl
            iterate 3 exact .skip rfl (by kernel_rfl)
            iterate 4 exact .val _ rfl (by kernel_rfl) fun _ _ => by kernel_rfl
            ·exact .val _ rfl (by kernel_rfl) fun _ h => run_loadE rfl rfl ((h.row 1 rfl).cells 4 1) (by kernel_rfl)
            iterate 2 exact .val _ rfl (by kernel_rfl) fun _ _ => by kernel_rfl
            ·exact .val _ rfl (by kernel_rfl) fun _ h => run_loadE rfl rfl ((h.row 0 rfl).cells 3 1) (by kernel_rfl)
            ·exact .val _ rfl (by kernel_rfl) (fun w hM => (okBool (by kernel_rfl) h19))
            iterate 3 exact .val _ rfl (by kernel_rfl) fun _ _ => by kernel_rfl
            ·exact .val _ rfl (by kernel_rfl) fun _ h => run_loadE rfl rfl ((h.row 0 rfl).cells 4 1) (by kernel_rfl)
            ·exact .val _ rfl (by kernel_rfl) (fun w hM => (okBool (by kernel_rfl) h20))
            ·exact .val _ rfl (by kernel_rfl) fun _ _ => by kernel_rfl
            iterate 4 exact .skip rfl (by kernel_rfl)
            iterate 4 exact .val _ rfl (by kernel_rfl) fun _ _ => by kernel_rfl
            ·exact .val _ rfl (by kernel_rfl) fun _ h => run_loadE rfl rfl ((h.row 0 rfl).cells 5 1) (by kernel_rfl)
            ·exact .val _ rfl (by kernel_rfl) (fun w hM => (okBool (by kernel_rfl) h24))
            ·exact .val _ rfl (by kernel_rfl) fun _ _ => by kernel_rfl
            iterate 4 exact .skip rfl (by kernel_rfl)
            iterate 2 exact .val _ rfl (by kernel_rfl) fun _ _ => by kernel_rfl
            have e91 : smBad1 t2 = false := by unfold smBad1; rw [h5, h6, h7, h8, h9, h10, h19, h20, h24]; rfl
            exact ⟨rfl, ⟨(by rw [e91]; exact hK.sub ⟨rfl, rfl, rfl, rfl, rfl, rfl, rfl, rfl, trivial⟩), hM⟩⟩
     ·rcases Bool.eq_false_or_eq_true ((ptLc t2.kind) != (isWd t2.loc)) with h26 | h26
      ·refine region_any (F := fun w => Mem w0 w [.row b4 98 (cP t2), .row b3 30 (cS t2)]) hK [some (.bool (ptIs t2.kind)), some (.bool (!(ptIs t2.kind))), sF, some (pA b4 0), some (.bool (ptNm t2.kind)), some (pA b3 1), some (Str t2.nm), some (.bool (isWd t2.nm)), sF, sF, sF, some (pA b4 0), some (.bool (ptNm t2.kind)), sF, sF, sU, sU, sU, sF, sF, sF, some (pA b4 1), some (.bool (ptLc t2.kind)), some (pA b3 2), some (Str t2.loc), some (.bool (isWd t2.loc)), sT, sT, sT, sU, sU, sU, sU, sU, sU, sU, sU, sT, sT, sU, sU, sU, sU, sU, sU, sT, sT, sU, sU, sU, sU, sU, sU, sU, sU, sU, sT, sT, sU, sU, sU, sU, sU, sU, sU, sU, sU, sT] 68 (fun _ _ hb hm => hm.go hb) hM (by kernel_rfl) (by kernel_rfl) ?_ [(91, .bool true), (6, .bool (ptIs t2.kind)), (5, pA b4 0), (4, pA b3 0), (11, .bool true), (2, .bool false), (0, .slice A l.length c), (3, .int .i64 ((i : Nat) : Int))] (by kernel_rfl) fun a w hK hM => ?_
       iterate 68 refine ⟨?_, ?_⟩
       trivial
       iterate 2 exact .val _ rfl (by kernel_rfl) fun _ _ => by kernel_rfl
       ·exact .val _ rfl (by kernel_rfl) (fun w hM => (okBool (by kernel_rfl) h5))
       ·exact .val _ rfl (by kernel_rfl) fun _ _ => by kernel_rfl
       ·exact .val _ rfl (by kernel_rfl) fun _ h => run_loadE rfl rfl ((h.row 0 rfl).cells 0 1) (by kernel_rfl)
       ·exact .val _ rfl (by kernel_rfl) fun _ _ => by kernel_rfl
       ·exact .val _ rfl (by kernel_rfl) fun _ h => run_loadE rfl rfl ((h.row 1 rfl).cells 1 1) (by kernel_rfl)
       ·exact .call _ #[Str t2.nm] (.bool (isWd t2.nm)) rfl (by kernel_rfl) (fun w => (run_callE en_cantileverref03_Word rfl rfl (by kernel_rfl))) (fun w hM => ref_Wd t2.nm _ (by omega))
       ·exact .val _ rfl (by kernel_rfl) (fun w hM => (okBool (run_neB rfl rfl rfl) h6))
       iterate 3 exact .val _ rfl (by kernel_rfl) fun _ _ => by kernel_rfl
       ·exact .val _ rfl (by kernel_rfl) fun _ h => run_loadE rfl rfl ((h.row 0 rfl).cells 0 1) (by kernel_rfl)
       ·exact .val _ rfl (by kernel_rfl) (fun w hM => (okBool (by kernel_rfl) h7))
       ·exact .val _ rfl (by kernel_rfl) fun _ _ => by kernel_rfl
       iterate 3 exact .skip rfl (by kernel_rfl)
       iterate 4 exact .val _ rfl (by kernel_rfl) fun _ _ => by kernel_rfl
       ·exact .val _ rfl (by kernel_rfl) fun _ h => run_loadE rfl rfl ((h.row 0 rfl).cells 1 1) (by kernel_rfl)
       ·exact .val _ rfl (by kernel_rfl) fun _ _ => by kernel_rfl
       ·exact .val _ rfl (by kernel_rfl) fun _ h => run_loadE rfl rfl ((h.row 1 rfl).cells 2 1) (by kernel_rfl)
       ·exact .call _ #[Str t2.loc] (.bool (isWd t2.loc)) rfl (by kernel_rfl) (fun w => (run_callE en_cantileverref03_Word rfl rfl (by kernel_rfl))) (fun w hM => ref_Wd t2.loc _ (by omega))
       ·exact .val _ rfl (by kernel_rfl) (fun w hM => (okBool (run_neB rfl rfl rfl) h26))
       iterate 2 exact .val _ rfl (by kernel_rfl) fun _ _ => by kernel_rfl
       iterate 8 exact .skip rfl (by kernel_rfl)
       iterate 2 exact .val _ rfl (by kernel_rfl) fun _ _ => by kernel_rfl
       iterate 6 exact .skip rfl (by kernel_rfl)
       iterate 2 exact .val _ rfl (by kernel_rfl) fun _ _ => by kernel_rfl
       iterate 9 exact .skip rfl (by kernel_rfl)
       iterate 2 exact .val _ rfl (by kernel_rfl) fun _ _ => by kernel_rfl
       iterate 9 exact .skip rfl (by kernel_rfl)
       ·exact .val _ rfl (by kernel_rfl) fun _ _ => by kernel_rfl
       have e91 : smBad1 t2 = true := by unfold smBad1; rw [h5, h6, h7, h26]; rfl
       exact ⟨rfl, ⟨(by rw [e91]; exact hK.sub ⟨rfl, rfl, rfl, rfl, rfl, rfl, rfl, rfl, trivial⟩), hM⟩⟩
      ·rcases Bool.eq_false_or_eq_true (!(ptLc t2.kind)) with h27 | h27
       ·rcases Bool.eq_false_or_eq_true (!(decide (t2.loc = []))) with h28 | h28
        ·refine region_any (F := fun w => Mem w0 w [.row b4 98 (cP t2), .row b3 30 (cS t2)]) hK [some (.bool (ptIs t2.kind)), some (.bool (!(ptIs t2.kind))), sF, some (pA b4 0), some (.bool (ptNm t2.kind)), some (pA b3 1), some (Str t2.nm), some (.bool (isWd t2.nm)), sF, sF, sF, some (pA b4 0), some (.bool (ptNm t2.kind)), sF, sF, sU, sU, sU, sF, sF, sF, some (pA b4 1), some (.bool (ptLc t2.kind)), some (pA b3 2), some (Str t2.loc), some (.bool (isWd t2.loc)), sF, sF, sF, some (pA b4 1), some (.bool (ptLc t2.kind)), sT, sT, some (pA b3 2), some (Str t2.loc), sT, sT, sT, sT, sU, sU, sU, sU, sU, sU, sT, sT, sU, sU, sU, sU, sU, sU, sU, sU, sU, sT, sT, sU, sU, sU, sU, sU, sU, sU, sU, sU, sT] 68 (fun _ _ hb hm => hm.go hb) hM (by kernel_rfl) (by kernel_rfl) ?_ [(91, .bool true), (6, .bool (ptIs t2.kind)), (5, pA b4 0), (4, pA b3 0), (11, .bool true), (2, .bool false), (0, .slice A l.length c), (3, .int .i64 ((i : Nat) : Int))] (by kernel_rfl) fun a w hK hM => ?_
         iterate 68 refine ⟨?_, ?_⟩
         trivial
         iterate 2 exact .val _ rfl (by kernel_rfl) fun _ _ => by kernel_rfl
         ·exact .val _ rfl (by kernel_rfl) (fun w hM => (okBool (by kernel_rfl) h5))
         ·exact .val _ rfl (by kernel_rfl) fun _ _ => by kernel_rfl
         ·exact .val _ rfl (by kernel_rfl) fun _ h => run_loadE rfl rfl ((h.row 0 rfl).cells 0 1) (by kernel_rfl)
         ·exact .val _ rfl (by kernel_rfl) fun _ _ => by kernel_rfl
         ·exact .val _ rfl (by kernel_rfl) fun _ h => run_loadE rfl rfl ((h.row 1 rfl).cells 1 1) (by kernel_rfl)
         ·exact .call _ #[Str t2.nm] (.bool (isWd t2.nm)) rfl (by kernel_rfl) (fun w => (run_callE en_cantileverref03_Word rfl rfl (by kernel_rfl))) (fun w hM => ref_Wd t2.nm _ (by omega))
         ·exact .val _ rfl (by kernel_rfl) (fun w hM => (okBool (run_neB rfl rfl rfl) h6))
         iterate 3 exact .val _ rfl (by kernel_rfl) fun _ _ => by kernel_rfl
         ·exact .val _ rfl (by kernel_rfl) fun _ h => run_loadE rfl rfl ((h.row 0 rfl).cells 0 1) (by kernel_rfl)
         ·exact .val _ rfl (by kernel_rfl) (fun w hM => (okBool (by kernel_rfl) h7))
         ·exact .val _ rfl (by kernel_rfl) fun _ _ => by kernel_rfl
         iterate 3 exact .skip rfl (by kernel_rfl)
         iterate 4 exact .val _ rfl (by kernel_rfl) fun _ _ => by kernel_rfl
         ·exact .val _ rfl (by kernel_rfl) fun _ h => run_loadE rfl rfl ((h.row 0 rfl).cells 1 1) (by kernel_rfl)
         ·exact .val _ rfl (by kernel_rfl) fun _ _ => by kernel_rfl
         ·exact .val _ rfl (by kernel_rfl) fun _ h => run_loadE rfl rfl ((h.row 1 rfl).cells 2 1) (by kernel_rfl)
         ·exact .call _ #[Str t2.loc] (.bool (isWd t2.loc)) rfl (by kernel_rfl) (fun w => (run_callE en_cantileverref03_Word rfl rfl (by kernel_rfl))) (fun w hM => ref_Wd t2.loc _ (by omega))
         ·exact .val _ rfl (by kernel_rfl) (fun w hM => (okBool (run_neB rfl rfl rfl) h26))
         iterate 3 exact .val _ rfl (by kernel_rfl) fun _ _ => by kernel_rfl
         ·exact .val _ rfl (by kernel_rfl) fun _ h => run_loadE rfl rfl ((h.row 0 rfl).cells 1 1) (by kernel_rfl)
         ·exact .val _ rfl (by kernel_rfl) (fun w hM => (okBool (by kernel_rfl) h27))
         iterate 2 exact .val _ rfl (by kernel_rfl) fun _ _ => by kernel_rfl
         ·exact .val _ rfl (by kernel_rfl) fun _ h => run_loadE rfl rfl ((h.row 1 rfl).cells 2 1) (by kernel_rfl)
         ·exact .val _ rfl (by kernel_rfl) (fun w hM => (okBool (run_neS rfl rfl rfl) h28))
         iterate 3 exact .val _ rfl (by kernel_rfl) fun _ _ => by kernel_rfl
         iterate 6 exact .skip rfl (by kernel_rfl)
         iterate 2 exact .val _ rfl (by kernel_rfl) fun _ _ => by kernel_rfl
         iterate 9 exact .skip rfl (by kernel_rfl)
         iterate 2 exact .val _ rfl (by kernel_rfl) fun _ _ => by kernel_rfl
         iterate 9 exact .skip rfl (by kernel_rfl)
         ·exact .val _ rfl (by kernel_rfl) fun _ _ => by kernel_rfl
         have e91 : smBad1 t2 = true := by unfold smBad1; rw [h5, h6, h7, h26, h27, h28]; rfl
         exact ⟨rfl, ⟨(by rw [e91]; exact hK.sub ⟨rfl, rfl, rfl, rfl, rfl, rfl, rfl, rfl, trivial⟩), hM⟩⟩
        ·rcases Bool.eq_false_or_eq_true (!(decide ((((t2.es.length : Nat) : Int) : Int) = (ptEx t2.kind)))) with h29 | h29
         ·refine region_any (F := fun w => Mem w0 w [.row b4 98 (cP t2), .row b3 30 (cS t2)]) hK [some (.bool (ptIs t2.kind)), some (.bool (!(ptIs t2.kind))), sF, some (pA b4 0), some (.bool (ptNm t2.kind)), some (pA b3 1), some (Str t2.nm), some (.bool (isWd t2.nm)), sF, sF, sF, some (pA b4 0), some (.bool (ptNm t2.kind)), sF, sF, sU, sU, sU, sF, sF, sF, some (pA b4 1), some (.bool (ptLc t2.kind)), some (pA b3 2), some (Str t2.loc), some (.bool (isWd t2.loc)), sF, sF, sF, some (pA b4 1), some (.bool (ptLc t2.kind)), sT, sT, some (pA b3 2), some (Str t2.loc), sF, sF, sF, sF, some (pA b3 4), some (.slice t2.A1 t2.es.length t2.c1), some (.int .i64 ((t2.es.length : Nat) : Int)), some (pA b4 3), some (.int .i64 (ptEx t2.kind)), sT, sT, sT, sU, sU, sU, sU, sU, sU, sU, sU, sU, sT, sT, sU, sU, sU, sU, sU, sU, sU, sU, sU, sT] 68 (fun _ _ hb hm => hm.go hb) hM (by kernel_rfl) (by kernel_rfl) ?_ [(91, .bool true), (6, .bool (ptIs t2.kind)), (5, pA b4 0), (4, pA b3 0), (11, .bool true), (2, .bool false), (0, .slice A l.length c), (3, .int .i64 ((i : Nat) : Int))] (by kernel_rfl) fun a w hK hM => ?_
          iterate 68 refine ⟨?_, ?_⟩
          trivial
          iterate 2 exact .val _ rfl (by kernel_rfl) fun _ _ => by kernel_rfl
          ·exact .val _ rfl (by kernel_rfl) (fun w hM => (okBool (by kernel_rfl) h5))
          ·exact .val _ rfl (by kernel_rfl) fun _ _ => by kernel_rfl
          ·exact .val _ rfl (by kernel_rfl) fun _ h => run_loadE rfl rfl ((h.row 0 rfl).cells 0 1) (by kernel_rfl)
          ·exact .val _ rfl (by kernel_rfl) fun _ _ => by kernel_rfl
          ·exact .val _ rfl (by kernel_rfl) fun _ h => run_loadE rfl rfl ((h.row 1 rfl).cells 1 1) (by kernel_rfl)
          ·exact .call _ #[Str t2.nm] (.bool (isWd t2.nm)) rfl (by kernel_rfl) (fun w => (run_callE en_cantileverref03_Word rfl rfl (by kernel_rfl))) (fun w hM => ref_Wd t2.nm _ (by omega))
          ·exact .val _ rfl (by kernel_rfl) (fun w hM => (okBool (run_neB rfl rfl rfl) h6))
          iterate 3 exact .val _ rfl (by kernel_rfl) fun _ _ => by kernel_rfl
          ·exact .val _ rfl (by kernel_rfl) fun _ h => run_loadE rfl rfl ((h.row 0 rfl).cells 0 1) (by kernel_rfl)
          ·exact .val _ rfl (by kernel_rfl) (fun w hM => (okBool (by kernel_rfl) h7))
          ·exact .val _ rfl (by kernel_rfl) fun _ _ => by kernel_rfl
          iterate 3 exact .skip rfl (by kernel_rfl)
          iterate 4 exact .val _ rfl (by kernel_rfl) fun _ _ => by kernel_rfl
          ·exact .val _ rfl (by kernel_rfl) fun _ h => run_loadE rfl rfl ((h.row 0 rfl).cells 1 1) (by kernel_rfl)
          ·exact .val _ rfl (by kernel_rfl) fun _ _ => by kernel_rfl
          ·exact .val _ rfl (by kernel_rfl) fun _ h => run_loadE rfl rfl ((h.row 1 rfl).cells 2 1) (by kernel_rfl)
          ·exact .call _ #[Str t2.loc] (.bool (isWd t2.loc)) rfl (by kernel_rfl) (fun w => (run_callE en_cantileverref03_Word rfl rfl (by kernel_rfl))) (fun w hM => ref_Wd t2.loc _ (by omega))
          ·exact .val _ rfl (by kernel_rfl) (fun w hM => (okBool (run_neB rfl rfl rfl) h26))
          iterate 3 exact .val _ rfl (by kernel_rfl) fun _ _ => by kernel_rfl
          ·exact .val _ rfl (by kernel_rfl) fun _ h => run_loadE rfl rfl ((h.row 0 rfl).cells 1 1) (by kernel_rfl)
          ·exact .val _ rfl (by kernel_rfl) (fun w hM => (okBool (by kernel_rfl) h27))
          iterate 2 exact .val _ rfl (by kernel_rfl) fun _ _ => by kernel_rfl
          ·exact .val _ rfl (by kernel_rfl) fun _ h => run_loadE rfl rfl ((h.row 1 rfl).cells 2 1) (by kernel_rfl)
          ·exact .val _ rfl (by kernel_rfl) (fun w hM => (okBool (run_neS rfl rfl rfl) h28))
          iterate 4 exact .val _ rfl (by kernel_rfl) fun _ _ => by kernel_rfl
          ·exact .val _ rfl (by kernel_rfl) fun _ h => run_loadE rfl rfl ((h.row 1 rfl).cells 4 1) (by kernel_rfl)
          iterate 2 exact .val _ rfl (by kernel_rfl) fun _ _ => by kernel_rfl
          ·exact .val _ rfl (by kernel_rfl) fun _ h => run_loadE rfl rfl ((h.row 0 rfl).cells 3 1) (by kernel_rfl)
          ·exact .val _ rfl (by kernel_rfl) (fun w hM => (okBool (by kernel_rfl) h29))
          iterate 2 exact .val _ rfl (by kernel_rfl) fun _ _ => by kernel_rfl
          iterate 9 exact .skip rfl (by kernel_rfl)
          iterate 2 exact .val _ rfl (by kernel_rfl) fun _ _ => by kernel_rfl
          iterate 9 exact .skip rfl (by kernel_rfl)
          ·exact .val _ rfl (by kernel_rfl) fun _ _ => by kernel_rfl
          have e91 : smBad1 t2 = true := by unfold smBad1; rw [h5, h6, h7, h26, h27, h28, h29]; rfl
          exact ⟨rfl, ⟨(by rw [e91]; exact hK.sub ⟨rfl, rfl, rfl, rfl, rfl, rfl, rfl, rfl, trivial⟩), hM⟩⟩
         ·rcases Bool.eq_false_or_eq_true (!(ptTh t2.kind)) with h30 | h30
          ·by_cases h31 : (0 : Int) < ((t2.th.length : Nat) : Int)
           ·refine region_any (F := fun w => Mem w0 w [.row b4 98 (cP t2), .row b3 30 (cS t2)]) hK [some (.bool (ptIs t2.kind)), some (.bool (!(ptIs t2.kind))), sF, some (pA b4 0), some (.bool (ptNm t2.kind)), some (pA b3 1), some (Str t2.nm), some (.bool (isWd t2.nm)), sF, sF, sF, some (pA b4 0), some (.bool (ptNm t2.kind)), sF, sF, sU, sU, sU, sF, sF, sF, some (pA b4 1), some (.bool (ptLc t2.kind)), some (pA b3 2), some (Str t2.loc), some (.bool (isWd t2.loc)), sF, sF, sF, some (pA b4 1), some (.bool (ptLc t2.kind)), sT, sT, some (pA b3 2), some (Str t2.loc), sF, sF, sF, sF, some (pA b3 4), some (.slice t2.A1 t2.es.length t2.c1), some (.int .i64 ((t2.es.length : Nat) : Int)), some (pA b4 3), some (.int .i64 (ptEx t2.kind)), sF, sF, sF, some (pA b4 4), some (.bool (ptTh t2.kind)), sT, sT, some (pA b3 5), some (.slice t2.A2 t2.th.length t2.c2), some (.int .i64 ((t2.th.length : Nat) : Int)), sT, sT, sT, sT, sU, sU, sU, sU, sU, sU, sU, sU, sU, sT] 68 (fun _ _ hb hm => hm.go hb) hM (by kernel_rfl) (by kernel_rfl) ?_ [(91, .bool true), (6, .bool (ptIs t2.kind)), (5, pA b4 0), (4, pA b3 0), (11, .bool true), (2, .bool false), (0, .slice A l.length c), (3, .int .i64 ((i : Nat) : Int))] (by kernel_rfl) fun a w hK hM => ?_
            iterate 68 refine ⟨?_, ?_⟩
            trivial
            iterate 2 exact .val _ rfl (by kernel_rfl) fun _ _ => by kernel_rfl
            ·exact .val _ rfl (by kernel_rfl) (fun w hM => (okBool (by kernel_rfl) h5))
            ·exact .val _ rfl (by kernel_rfl) fun _ _ => by kernel_rfl
            ·exact .val _ rfl (by kernel_rfl) fun _ h => run_loadE rfl rfl ((h.row 0 rfl).cells 0 1) (by kernel_rfl)
            ·exact .val _ rfl (by kernel_rfl) fun _ _ => by kernel_rfl
            ·exact .val _ rfl (by kernel_rfl) fun _ h => run_loadE rfl rfl ((h.row 1 rfl).cells 1 1) (by kernel_rfl)
            ·exact .call _ #[Str t2.nm] (.bool (isWd t2.nm)) rfl (by kernel_rfl) (fun w => (run_callE en_cantileverref03_Word rfl rfl (by kernel_rfl))) (fun w hM => ref_Wd t2.nm _ (by omega))
            ·exact .val _ rfl (by kernel_rfl) (fun w hM => (okBool (run_neB rfl rfl rfl) h6))
            iterate 3 exact .val _ rfl (by kernel_rfl) fun _ _ => by kernel_rfl
            ·exact .val _ rfl (by kernel_rfl) fun _ h => run_loadE rfl rfl ((h.row 0 rfl).cells 0 1) (by kernel_rfl)
            ·exact .val _ rfl (by kernel_rfl) (fun w hM => (okBool (by kernel_rfl) h7))
            ·exact .val _ rfl (by kernel_rfl) fun _ _ => by kernel_rfl
            iterate 3 exact .skip rfl (by kernel_rfl)
            iterate 4 exact .val _ rfl (by kernel_rfl) fun _ _ => by kernel_rfl
            ·exact .val _ rfl (by kernel_rfl) fun _ h => run_loadE rfl rfl ((h.row 0 rfl).cells 1 1) (by kernel_rfl)
            ·exact .val _ rfl (by kernel_rfl) fun _ _ => by kernel_rfl
            ·exact .val _ rfl (by kernel_rfl) fun _ h => run_loadE rfl rfl ((h.row 1 rfl).cells 2 1) (by kernel_rfl)
            ·exact .call _ #[Str t2.loc] (.bool (isWd t2.loc)) rfl (by kernel_rfl) (fun w => (run_callE en_cantileverref03_Word rfl rfl (by kernel_rfl))) (fun w hM => ref_Wd t2.loc _ (by omega))
            ·exact .val _ rfl (by kernel_rfl) (fun w hM => (okBool (run_neB rfl rfl rfl) h26))
            iterate 3 exact .val _ rfl (by kernel_rfl) fun _ _ => by kernel_rfl
            ·exact .val _ rfl (by kernel_rfl) fun _ h => run_loadE rfl rfl ((h.row 0 rfl).cells 1 1) (by kernel_rfl)
            ·exact .val _ rfl (by kernel_rfl) (fun w hM => (okBool (by kernel_rfl) h27))
            iterate 2 exact .val _ rfl (by kernel_rfl) fun _ _ => by kernel_rfl
            ·exact .val _ rfl (by kernel_rfl) fun _ h => run_loadE rfl rfl ((h.row 1 rfl).cells 2 1) (by kernel_rfl)
            ·exact .val _ rfl (by kernel_rfl) (fun w hM => (okBool (run_neS rfl rfl rfl) h28))
            iterate 4 exact .val _ rfl (by kernel_rfl) fun _ _ => by kernel_rfl
            ·exact .val _ rfl (by kernel_rfl) fun _ h => run_loadE rfl rfl ((h.row 1 rfl).cells 4 1) (by kernel_rfl)
            iterate 2 exact .val _ rfl (by kernel_rfl) fun _ _ => by kernel_rfl
            ·exact .val _ rfl (by kernel_rfl) fun _ h => run_loadE rfl rfl ((h.row 0 rfl).cells 3 1) (by kernel_rfl)
            ·exact .val _ rfl (by kernel_rfl) (fun w hM => (okBool (by kernel_rfl) h29))
            iterate 3 exact .val _ rfl (by kernel_rfl) fun _ _ => by kernel_rfl
            ·exact .val _ rfl (by kernel_rfl) fun _ h => run_loadE rfl rfl ((h.row 0 rfl).cells 4 1) (by kernel_rfl)
            ·exact .val _ rfl (by kernel_rfl) (fun w hM => (okBool (by kernel_rfl) h30))
            iterate 2 exact .val _ rfl (by kernel_rfl) fun _ _ => by kernel_rfl
            ·exact .val _ rfl (by kernel_rfl) fun _ h => run_loadE rfl rfl ((h.row 1 rfl).cells 5 1) (by kernel_rfl)
            ·exact .val _ rfl (by kernel_rfl) fun _ _ => by kernel_rfl
            ·exact .val _ rfl (by kernel_rfl) (fun w hM => (okBool (by kernel_rfl) (decide_eq_true h31)))
            iterate 3 exact .val _ rfl (by kernel_rfl) fun _ _ => by kernel_rfl
            iterate 9 exact .skip rfl (by kernel_rfl)
            ·exact .val _ rfl (by kernel_rfl) fun _ _ => by kernel_rfl
            have e91 : smBad1 t2 = true := by unfold smBad1; rw [h5, h6, h7, h26, h27, h28, h29, h30, (decide_eq_true h31)]; rfl
            exact ⟨rfl, ⟨(by rw [e91]; exact hK.sub ⟨rfl, rfl, rfl, rfl, rfl, rfl, rfl, rfl, trivial⟩), hM⟩⟩
           ·rcases Bool.eq_false_or_eq_true (!(ptEl t2.kind)) with h32 | h32
            ·by_cases h33 : (0 : Int) < ((t2.el.length : Nat) : Int)
             ·refine region_any (F := fun w => Mem w0 w [.row b4 98 (cP t2), .row b3 30 (cS t2)]) hK [some (.bool (ptIs t2.kind)), some (.bool (!(ptIs t2.kind))), sF, some (pA b4 0), some (.bool (ptNm t2.kind)), some (pA b3 1), some (Str t2.nm), some (.bool (isWd t2.nm)), sF, sF, sF, some (pA b4 0), some (.bool (ptNm t2.kind)), sF, sF, sU, sU, sU, sF, sF, sF, some (pA b4 1), some (.bool (ptLc t2.kind)), some (pA b3 2), some (Str t2.loc), some (.bool (isWd t2.loc)), sF, sF, sF, some (pA b4 1), some (.bool (ptLc t2.kind)), sT, sT, some (pA b3 2), some (Str t2.loc), sF, sF, sF, sF, some (pA b3 4), some (.slice t2.A1 t2.es.length t2.c1), some (.int .i64 ((t2.es.length : Nat) : Int)), some (pA b4 3), some (.int .i64 (ptEx t2.kind)), sF, sF, sF, some (pA b4 4), some (.bool (ptTh t2.kind)), sT, sT, some (pA b3 5), some (.slice t2.A2 t2.th.length t2.c2), some (.int .i64 ((t2.th.length : Nat) : Int)), sF, sF, sF, sF, some (pA b4 5), some (.bool (ptEl t2.kind)), sT, sT, some (pA b3 6), some (.slice t2.A3 t2.el.length t2.c3), some (.int .i64 ((t2.el.length : Nat) : Int)), sT, sT, sT] 68 (fun _ _ hb hm => hm.go hb) hM (by kernel_rfl) (by kernel_rfl) ?_ [(91, .bool true), (6, .bool (ptIs t2.kind)), (5, pA b4 0), (4, pA b3 0), (11, .bool true), (2, .bool false), (0, .slice A l.length c), (3, .int .i64 ((i : Nat) : Int))] (by kernel_rfl) fun a w hK hM => ?_
              iterate 68 refine ⟨?_, ?_⟩
              trivial
              iterate 2 exact .val _ rfl (by kernel_rfl) fun _ _ => by kernel_rfl
              ·exact .val _ rfl (by kernel_rfl) (fun w hM => (okBool (by kernel_rfl) h5))
              ·exact .val _ rfl (by kernel_rfl) fun _ _ => by kernel_rfl
              ·exact .val _ rfl (by kernel_rfl) fun _ h => run_loadE rfl rfl ((h.row 0 rfl).cells 0 1) (by kernel_rfl)
              ·exact .val _ rfl (by kernel_rfl) fun _ _ => by kernel_rfl
              ·exact .val _ rfl (by kernel_rfl) fun _ h => run_loadE rfl rfl ((h.row 1 rfl).cells 1 1) (by kernel_rfl)
              ·exact .call _ #[Str t2.nm] (.bool (isWd t2.nm)) rfl (by kernel_rfl) (fun w => (run_callE en_cantileverref03_Word rfl rfl (by kernel_rfl))) (fun w hM => ref_Wd t2.nm _ (by omega))
              ·exact .val _ rfl (by kernel_rfl) (fun w hM => (okBool (run_neB rfl rfl rfl) h6))
              iterate 3 exact .val _ rfl (by kernel_rfl) fun _ _ => by kernel_rfl
              ·exact .val _ rfl (by kernel_rfl) fun _ h => run_loadE rfl rfl ((h.row 0 rfl).cells 0 1) (by kernel_rfl)
              ·exact .val _ rfl (by kernel_rfl) (fun w hM => (okBool (by kernel_rfl) h7))
              ·exact .val _ rfl (by kernel_rfl) fun _ _ => by kernel_rfl
              iterate 3 exact .skip rfl (by kernel_rfl)
              iterate 4 exact .val _ rfl (by kernel_rfl) fun _ _ => by kernel_rfl
              ·exact .val _ rfl (by kernel_rfl) fun _ h => run_loadE rfl rfl ((h.row 0 rfl).cells 1 1) (by kernel_rfl)
              ·exact .val _ rfl (by kernel_rfl) fun _ _ => by kernel_rfl
              ·exact .val _ rfl (by kernel_rfl) fun _ h => run_loadE rfl rfl ((h.row 1 rfl).cells 2 1) (by kernel_rfl)
              ·exact .call _ #[Str t2.loc] (.bool (isWd t2.loc)) rfl (by kernel_rfl) (fun w => (run_callE en_cantileverref03_Word rfl rfl (by kernel_rfl))) (fun w hM => ref_Wd t2.loc _ (by omega))
              ·exact .val _ rfl (by kernel_rfl) (fun w hM => (okBool (run_neB rfl rfl rfl) h26))
              iterate 3 exact .val _ rfl (by kernel_rfl) fun _ _ => by kernel_rfl
              ·exact .val _ rfl (by kernel_rfl) fun _ h => run_loadE rfl rfl ((h.row 0 rfl).cells 1 1) (by kernel_rfl)
              ·exact .val _ rfl (by kernel_rfl) (fun w hM => (okBool (by kernel_rfl) h27))
              iterate 2 exact .val _ rfl (by kernel_rfl) fun _ _ => by kernel_rfl
              ·exact .val _ rfl (by kernel_rfl) fun _ h => run_loadE rfl rfl ((h.row 1 rfl).cells 2 1) (by kernel_rfl)
              ·exact .val _ rfl (by kernel_rfl) (fun w hM => (okBool (run_neS rfl rfl rfl) h28))
              iterate 4 exact .val _ rfl (by kernel_rfl) fun _ _ => by kernel_rfl
              ·exact .val _ rfl (by kernel_rfl) fun _ h => run_loadE rfl rfl ((h.row 1 rfl).cells 4 1) (by kernel_rfl)
              iterate 2 exact .val _ rfl (by kernel_rfl) fun _ _ => by kernel_rfl
              ·exact .val _ rfl (by kernel_rfl) fun _ h => run_loadE rfl rfl ((h.row 0 rfl).cells 3 1) (by kernel_rfl)
              ·exact .val _ rfl (by kernel_rfl) (fun w hM => (okBool (by kernel_rfl) h29))
              iterate 3 exact .val _ rfl (by kernel_rfl) fun _ _ => by kernel_rfl
              ·exact .val _ rfl (by kernel_rfl) fun _ h => run_loadE rfl rfl ((h.row 0 rfl).cells 4 1) (by kernel_rfl)
              ·exact .val _ rfl (by kernel_rfl) (fun w hM => (okBool (by kernel_rfl) h30))
              iterate 2 exact .val _ rfl (by kernel_rfl) fun _ _ => by kernel_rfl
              ·exact .val _ rfl (by kernel_rfl) fun _ h => run_loadE rfl rfl ((h.row 1 rfl).cells 5 1) (by kernel_rfl)
              ·exact .val _ rfl (by kernel_rfl) fun _ _ => by kernel_rfl
              ·exact .val _ rfl (by kernel_rfl) (fun w hM => (okBool (by kernel_rfl) (decide_eq_false h31)))
              iterate 4 exact .val _ rfl (by kernel_rfl) fun _ _ => by kernel_rfl
              ·exact .val _ rfl (by kernel_rfl) fun _ h => run_loadE rfl rfl ((h.row 0 rfl).cells 5 1) (by kernel_rfl)
              ·exact .val _ rfl (by kernel_rfl) (fun w hM => (okBool (by kernel_rfl) h32))
              iterate 2 exact .val _ rfl (by kernel_rfl) fun _ _ => by kernel_rfl
              ·exact .val _ rfl (by kernel_rfl) fun _ h => run_loadE rfl rfl ((h.row 1 rfl).cells 6 1) (by kernel_rfl)
              ·exact .val _ rfl (by kernel_rfl) fun _ _ => by kernel_rfl
              ·exact .val _ rfl (by kernel_rfl) (fun w hM => (okBool (by kernel_rfl) (decide_eq_true h33)))
              iterate 2 exact .val _ rfl (by kernel_rfl) fun _ _ => by kernel_rfl
              have e91 : smBad1 t2 = true := by unfold smBad1; rw [h5, h6, h7, h26, h27, h28, h29, h30, (decide_eq_false h31), h32, (decide_eq_true h33)]; rfl
              exact ⟨rfl, ⟨(by rw [e91]; exact hK.sub ⟨rfl, rfl, rfl, rfl, rfl, rfl, rfl, rfl, trivial⟩), hM⟩⟩
             ·refine region_any (F := fun w => Mem w0 w [.row b4 98 (cP t2), .row b3 30 (cS t2)]) hK [some (.bool (ptIs t2.kind)), some (.bool (!(ptIs t2.kind))), sF, some (pA b4 0), some (.bool (ptNm t2.kind)), some (pA b3 1), some (Str t2.nm), some (.bool (isWd t2.nm)), sF, sF, sF, some (pA b4 0), some (.bool (ptNm t2.kind)), sF, sF, sU, sU, sU, sF, sF, sF, some (pA b4 1), some (.bool (ptLc t2.kind)), some (pA b3 2), some (Str t2.loc), some (.bool (isWd t2.loc)), sF, sF, sF, some (pA b4 1), some (.bool (ptLc t2.kind)), sT, sT, some (pA b3 2), some (Str t2.loc), sF, sF, sF, sF, some (pA b3 4), some (.slice t2.A1 t2.es.length t2.c1), some (.int .i64 ((t2.es.length : Nat) : Int)), some (pA b4 3), some (.int .i64 (ptEx t2.kind)), sF, sF, sF, some (pA b4 4), some (.bool (ptTh t2.kind)), sT, sT, some (pA b3 5), some (.slice t2.A2 t2.th.length t2.c2), some (.int .i64 ((t2.th.length : Nat) : Int)), sF, sF, sF, sF, some (pA b4 5), some (.bool (ptEl t2.kind)), sT, sT, some (pA b3 6), some (.slice t2.A3 t2.el.length t2.c3), some (.int .i64 ((t2.el.length : Nat) : Int)), sF, sF, sF] 68 (fun _ _ hb hm => hm.go hb) hM (by kernel_rfl) (by kernel_rfl) ?_ [(91, .bool false), (6, .bool (ptIs t2.kind)), (5, pA b4 0), (4, pA b3 0), (11, .bool true), (2, .bool false), (0, .slice A l.length c), (3, .int .i64 ((i : Nat) : Int))] (by kernel_rfl) fun a w hK hM => ?_
              iterate 68 refine ⟨?_, ?_⟩
              trivial
              iterate 2 exact .val _ rfl (by kernel_rfl) fun _ _ => by kernel_rfl
              ·exact .val _ rfl (by kernel_rfl) (fun w hM => (okBool (by kernel_rfl) h5))
              ·exact .val _ rfl (by kernel_rfl) fun _ _ => by kernel_rfl
              ·exact .val _ rfl (by kernel_rfl) fun _ h => run_loadE rfl rfl ((h.row 0 rfl).cells 0 1) (by kernel_rfl)
              ·exact .val _ rfl (by kernel_rfl) fun _ _ => by kernel_rfl
              ·exact .val _ rfl (by kernel_rfl) fun _ h => run_loadE rfl rfl ((h.row 1 rfl).cells 1 1) (by kernel_rfl)
              ·exact .call _ #[Str t2.nm] (.bool (isWd t2.nm)) rfl (by kernel_rfl) (fun w => (run_callE en_cantileverref03_Word rfl rfl (by kernel_rfl))) (fun w hM => ref_Wd t2.nm _ (by omega))
              ·exact .val _ rfl (by kernel_rfl) (fun w hM => (okBool (run_neB rfl rfl rfl) h6))
              iterate 3 exact .val _ rfl (by kernel_rfl) fun _ _ => by kernel_rfl
              ·exact .val _ rfl (by kernel_rfl) fun _ h => run_loadE rfl rfl ((h.row 0 rfl).cells 0 1) (by kernel_rfl)
              ·exact .val _ rfl (by kernel_rfl) (fun w hM => (okBool (by kernel_rfl) h7))
              ·exact .val _ rfl (by kernel_rfl) fun _ _ => by kernel_rfl
              iterate 3 exact .skip rfl (by kernel_rfl)
              iterate 4 exact .val _ rfl (by kernel_rfl) fun _ _ => by kernel_rfl
              ·exact .val _ rfl (by kernel_rfl) fun _ h => run_loadE rfl rfl ((h.row 0 rfl).cells 1 1) (by kernel_rfl)
              ·exact .val _ rfl (by kernel_rfl) fun _ _ => by kernel_rfl
              ·exact .val _ rfl (by kernel_rfl) fun _ h => run_loadE rfl rfl ((h.row 1 rfl).cells 2 1) (by kernel_rfl)
              ·exact .call _ #[Str t2.loc] (.bool (isWd t2.loc)) rfl (by kernel_rfl) (fun w => (run_callE en_cantileverref03_Word rfl rfl (by kernel_rfl))) (fun w hM => ref_Wd t2.loc _ (by omega))
              ·exact .val _ rfl (by kernel_rfl) (fun w hM => (okBool (run_neB rfl rfl rfl) h26))
              iterate 3 exact .val _ rfl (by kernel_rfl) fun _ _ => by kernel_rfl
              ·exact .val _ rfl (by kernel_rfl) fun _ h => run_loadE rfl rfl ((h.row 0 rfl).cells 1 1) (by kernel_rfl)
              ·exact .val _ rfl (by kernel_rfl) (fun w hM => (okBool (by kernel_rfl) h27))
              iterate 2 exact .val _ rfl (by kernel_rfl) fun _ _ => by kernel_rfl
              ·exact .val _ rfl (by kernel_rfl) fun _ h => run_loadE rfl rfl ((h.row 1 rfl).cells 2 1) (by kernel_rfl)
              ·exact .val _ rfl (by kernel_rfl) (fun w hM => (okBool (run_neS rfl rfl rfl) h28))
              iterate 4 exact .val _ rfl (by kernel_rfl) fun _ _ => by kernel_rfl
              ·exact .val _ rfl (by kernel_rfl) fun _ h => run_loadE rfl rfl ((h.row 1 rfl).cells 4 1) (by kernel_rfl)
              iterate 2 exact .val _ rfl (by kernel_rfl) fun _ _ => by kernel_rfl
              ·exact .val _ rfl (by kernel_rfl) fun _ h => run_loadE rfl rfl ((h.row 0 rfl).cells 3 1) (by kernel_rfl)
              ·exact .val _ rfl (by kernel_rfl) (fun w hM => (okBool (by kernel_rfl) h29))
              iterate 3 exact .val _ rfl (by kernel_rfl) fun _ _ => by kernel_rfl
              ·exact .val _ rfl (by kernel_rfl) fun _ h => run_loadE rfl rfl ((h.row 0 rfl).cells 4 1) (by kernel_rfl)
              ·exact .val _ rfl (by kernel_rfl) (fun w hM => (okBool (by kernel_rfl) h30))
              iterate 2 exact .val _ rfl (by kernel_rfl) fun _ _ => by kernel_rfl
              ·exact .val _ rfl (by kernel_rfl) fun _ h => run_loadE rfl rfl ((h.row 1 rfl).cells 5 1) (by kernel_rfl)
              ·exact .val _ rfl (by kernel_rfl) fun _ _ => by kernel_rfl
              ·exact .val _ rfl (by kernel_rfl) (fun w hM => (okBool (by kernel_rfl) (decide_eq_false h31)))
              iterate 4 exact .val _ rfl (by kernel_rfl) fun _ _ => by kernel_rfl
              ·exact .val _ rfl (by kernel_rfl) fun _ h => run_loadE rfl rfl ((h.row 0 rfl).cells 5 1) (by kernel_rfl)
              ·exact .val _ rfl (by kernel_rfl) (fun w hM => (okBool (by kernel_rfl) h32))
              iterate 2 exact .val _ rfl (by kernel_rfl) fun _ _ => by kernel_rfl
              ·exact .val _ rfl (by kernel_rfl) fun _ h => run_loadE rfl rfl ((h.row 1 rfl).cells 6 1) (by kernel_rfl)
              ·exact .val _ rfl (by kernel_rfl) fun _ _ => by kernel_rfl
              ·exact .val _ rfl (by kernel_rfl) (fun w hM => (okBool (by kernel_rfl) (decide_eq_false h33)))
              iterate 2 exact .val _ rfl (by kernel_rfl) fun _ _ => by kernel_rfl
              have e91 : smBad1 t2 = false := by unfold smBad1; rw [h5, h6, h7, h26, h27, h28, h29, h30, (decide_eq_false h31), h32, (decide_eq_false h33)]; rfl
              exact ⟨rfl, ⟨(by rw [e91]; exact hK.sub ⟨rfl, rfl, rfl, rfl, rfl, rfl, rfl, rfl, trivial⟩), hM⟩⟩
            ·refine region_any (F := fun w => Mem w0 w [.row b4 98 (cP t2), .row b3 30 (cS t2)]) hK [some (.bool (ptIs t2.kind)), some (.bool (!(ptIs t2.kind))), sF, some (pA b4 0), some (.bool (ptNm t2.kind)), some (pA b3 1), some (Str t2.nm), some (.bool (isWd t2.nm)), sF, sF, sF, some (pA b4 0), some (.bool (ptNm t2.kind)), sF, sF, sU, sU, sU, sF, sF, sF, some (pA b4 1), some (.bool (ptLc t2.kind)), some (pA b3 2), some (Str t2.loc), some (.bool (isWd t2.loc)), sF, sF, sF, some (pA b4 1), some (.bool (ptLc t2.kind)), sT, sT, some (pA b3 2), some (Str t2.loc), sF, sF, sF, sF, some (pA b3 4), some (.slice t2.A1 t2.es.length t2.c1), some (.int .i64 ((t2.es.length : Nat) : Int)), some (pA b4 3), some (.int .i64 (ptEx t2.kind)), sF, sF, sF, some (pA b4 4), some (.bool (ptTh t2.kind)), sT, sT, some (pA b3 5), some (.slice t2.A2 t2.th.length t2.c2), some (.int .i64 ((t2.th.length : Nat) : Int)), sF, sF, sF, sF, some (pA b4 5), some (.bool (ptEl t2.kind)), sF, sF, sU, sU, sU, sU, sF, sF] 68 (fun _ _ hb hm => hm.go hb) hM (by kernel_rfl) (by kernel_rfl) ?_ [(91, .bool false), (6, .bool (ptIs t2.kind)), (5, pA b4 0), (4, pA b3 0), (11, .bool true), (2, .bool false), (0, .slice A l.length c), (3, .int .i64 ((i : Nat) : Int))] (by kernel_rfl) fun a w hK hM => ?_
             iterate 68 refine ⟨?_, ?_⟩
             trivial
             iterate 2 exact .val _ rfl (by kernel_rfl) fun _ _ => by kernel_rfl
             ·exact .val _ rfl (by kernel_rfl) (fun w hM => (okBool (by kernel_rfl) h5))
             ·exact .val _ rfl (by kernel_rfl) fun _ _ => by kernel_rfl
             ·exact .val _ rfl (by kernel_rfl) fun _ h => run_loadE rfl rfl ((h.row 0 rfl).cells 0 1) (by kernel_rfl)
             ·exact .val _ rfl (by kernel_rfl) fun _ _ => by kernel_rfl
             ·exact .val _ rfl (by kernel_rfl) fun _ h => run_loadE rfl rfl ((h.row 1 rfl).cells 1 1) (by kernel_rfl)
             ·exact .call _ #[Str t2.nm] (.bool (isWd t2.nm)) rfl (by kernel_rfl) (fun w => (run_callE en_cantileverref03_Word rfl rfl (by kernel_rfl))) (fun w hM => ref_Wd t2.nm _ (by omega))
             ·exact .val _ rfl (by kernel_rfl) (fun w hM => (okBool (run_neB rfl rfl rfl) h6))
             iterate 3 exact .val _ rfl (by kernel_rfl) fun _ _ => by kernel_rfl
             ·exact .val _ rfl (by kernel_rfl) fun _ h => run_loadE rfl rfl ((h.row 0 rfl).cells 0 1) (by kernel_rfl)
             ·exact .val _ rfl (by kernel_rfl) (fun w hM => (okBool (by kernel_rfl) h7))
             ·exact .val _ rfl (by kernel_rfl) fun _ _ => by kernel_rfl
             iterate 3 exact .skip rfl (by kernel_rfl)
             iterate 4 exact .val _ rfl (by kernel_rfl) fun _ _ => by kernel_rfl
             ·exact .val _ rfl (by kernel_rfl) fun _ h => run_loadE rfl rfl ((h.row 0 rfl).cells 1 1) (by kernel_rfl)
             ·exact .val _ rfl (by kernel_rfl) fun _ _ => by kernel_rfl
             ·exact .val _ rfl (by kernel_rfl) fun _ h => run_loadE rfl rfl ((h.row 1 rfl).cells 2 1) (by kernel_rfl)
             ·exact .call _ #[Str t2.loc] (.bool (isWd t2.loc)) rfl (by kernel_rfl) (fun w => (run_callE en_cantileverref03_Word rfl rfl (by kernel_rfl))) (fun w hM => ref_Wd t2.loc _ (by omega))
             ·exact .val _ rfl (by kernel_rfl) (fun w hM => (okBool (run_neB rfl rfl rfl) h26))
             iterate 3 exact .val _ rfl (by kernel_rfl) fun _ _ => by kernel_rfl
             ·exact .val _ rfl (by kernel_rfl) fun _ h => run_loadE rfl rfl ((h.row 0 rfl).cells 1 1) (by kernel_rfl)
             ·exact .val _ rfl (by kernel_rfl) (fun w hM => (okBool (by kernel_rfl) h27))
             iterate 2 exact .val _ rfl (by kernel_rfl) fun _ _ => by kernel_rfl
             ·exact .val _ rfl (by kernel_rfl) fun _ h => run_loadE rfl rfl ((h.row 1 rfl).cells 2 1) (by kernel_rfl)
             ·exact .val _ rfl (by kernel_rfl) (fun w hM => (okBool (run_neS rfl rfl rfl) h28))
             iterate 4 exact .val _ rfl (by kernel_rfl) fun _ _ => by kernel_rfl
             ·exact .val _ rfl (by kernel_rfl) fun _ h => run_loadE rfl rfl ((h.row 1 rfl).cells 4 1) (by kernel_rfl)
             iterate 2 exact .val _ rfl (by kernel_rfl) fun _ _ => by kernel_rfl
             ·exact .val _ rfl (by kernel_rfl) fun _ h => run_loadE rfl rfl ((h.row 0 rfl).cells 3 1) (by kernel_rfl)
             ·exact .val _ rfl (by kernel_rfl) (fun w hM => (okBool (by kernel_rfl) h29))
             iterate 3 exact .val _ rfl (by kernel_rfl) fun _ _ => by kernel_rfl
             ·exact .val _ rfl (by kernel_rfl) fun _ h => run_loadE rfl rfl ((h.row 0 rfl).cells 4 1) (by kernel_rfl)
             ·exact .val _ rfl (by kernel_rfl) (fun w hM => (okBool (by kernel_rfl) h30))
             iterate 2 exact .val _ rfl (by kernel_rfl) fun _ _ => by kernel_rfl
             ·exact .val _ rfl (by kernel_rfl) fun _ h => run_loadE rfl rfl ((h.row 1 rfl).cells 5 1) (by kernel_rfl)
             ·exact .val _ rfl (by kernel_rfl) fun _ _ => by kernel_rfl
             ·exact .val _ rfl (by kernel_rfl) (fun w hM => (okBool (by kernel_rfl) (decide_eq_false h31)))
             iterate 4 exact .val _ rfl (by kernel_rfl) fun _ _ => by kernel_rfl
             ·exact .val _ rfl (by kernel_rfl) fun _ h => run_loadE rfl rfl ((h.row 0 rfl).cells 5 1) (by kernel_rfl)
             ·exact .val _ rfl (by kernel_rfl) (fun w hM => (okBool (by kernel_rfl) h32))
             ·exact .val _ rfl (by kernel_rfl) fun _ _ => by kernel_rfl
             iterate 4 exact .skip rfl (by kernel_rfl)
             iterate 2 exact .val _ rfl (by kernel_rfl) fun _ _ => by kernel_rfl
             have e91 : smBad1 t2 = false := by unfold smBad1; rw [h5, h6, h7, h26, h27, h28, h29, h30, (decide_eq_false h31), h32]; rfl
             exact ⟨rfl, ⟨(by rw [e91]; exact hK.sub ⟨rfl, rfl, rfl, rfl, rfl, rfl, rfl, rfl, trivial⟩), hM⟩⟩
          ·rcases Bool.eq_false_or_eq_true (!(ptEl t2.kind)) with h34 | h34
           ·by_cases h35 : (0 : Int) < ((t2.el.length : Nat) : Int)
            ·refine region_any (F := fun w => Mem w0 w [.row b4 98 (cP t2), .row b3 30 (cS t2)]) hK [some (.bool (ptIs t2.kind)), some (.bool (!(ptIs t2.kind))), sF, some (pA b4 0), some (.bool (ptNm t2.kind)), some (pA b3 1), some (Str t2.nm), some (.bool (isWd t2.nm)), sF, sF, sF, some (pA b4 0), some (.bool (ptNm t2.kind)), sF, sF, sU, sU, sU, sF, sF, sF, some (pA b4 1), some (.bool (ptLc t2.kind)), some (pA b3 2), some (Str t2.loc), some (.bool (isWd t2.loc)), sF, sF, sF, some (pA b4 1), some (.bool (ptLc t2.kind)), sT, sT, some (pA b3 2), some (Str t2.loc), sF, sF, sF, sF, some (pA b3 4), some (.slice t2.A1 t2.es.length t2.c1), some (.int .i64 ((t2.es.length : Nat) : Int)), some (pA b4 3), some (.int .i64 (ptEx t2.kind)), sF, sF, sF, some (pA b4 4), some (.bool (ptTh t2.kind)), sF, sF, sU, sU, sU, sU, sF, sF, sF, some (pA b4 5), some (.bool (ptEl t2.kind)), sT, sT, some (pA b3 6), some (.slice t2.A3 t2.el.length t2.c3), some (.int .i64 ((t2.el.length : Nat) : Int)), sT, sT, sT] 68 (fun _ _ hb hm => hm.go hb) hM (by kernel_rfl) (by kernel_rfl) ?_ [(91, .bool true), (6, .bool (ptIs t2.kind)), (5, pA b4 0), (4, pA b3 0), (11, .bool true), (2, .bool false), (0, .slice A l.length c), (3, .int .i64 ((i : Nat) : Int))] (by kernel_rfl) fun a w hK hM => ?_
             iterate 68 refine ⟨?_, ?_⟩
             trivial
             iterate 2 exact .val _ rfl (by kernel_rfl) fun _ _ => by kernel_rfl
             ·exact .val _ rfl (by kernel_rfl) (fun w hM => (okBool (by kernel_rfl) h5))
             ·exact .val _ rfl (by kernel_rfl) fun _ _ => by kernel_rfl
             ·exact .val _ rfl (by kernel_rfl) fun _ h => run_loadE rfl rfl ((h.row 0 rfl).cells 0 1) (by kernel_rfl)
             ·exact .val _ rfl (by kernel_rfl) fun _ _ => by kernel_rfl
             ·exact .val _ rfl (by kernel_rfl) fun _ h => run_loadE rfl rfl ((h.row 1 rfl).cells 1 1) (by kernel_rfl)
             ·exact .call _ #[Str t2.nm] (.bool (isWd t2.nm)) rfl (by kernel_rfl) (fun w => (run_callE en_cantileverref03_Word rfl rfl (by kernel_rfl))) (fun w hM => ref_Wd t2.nm _ (by omega))
             ·exact .val _ rfl (by kernel_rfl) (fun w hM => (okBool (run_neB rfl rfl rfl) h6))
             iterate 3 exact .val _ rfl (by kernel_rfl) fun _ _ => by kernel_rfl
             ·exact .val _ rfl (by kernel_rfl) fun _ h => run_loadE rfl rfl ((h.row 0 rfl).cells 0 1) (by kernel_rfl)
             ·exact .val _ rfl (by kernel_rfl) (fun w hM => (okBool (by kernel_rfl) h7))
             ·exact .val _ rfl (by kernel_rfl) fun _ _ => by kernel_rfl
             iterate 3 exact .skip rfl (by kernel_rfl)
             iterate 4 exact .val _ rfl (by kernel_rfl) fun _ _ => by kernel_rfl
             ·exact .val _ rfl (by kernel_rfl) fun _ h => run_loadE rfl rfl ((h.row 0 rfl).cells 1 1) (by kernel_rfl)
             ·exact .val _ rfl (by kernel_rfl) fun _ _ => by kernel_rfl
             ·exact .val _ rfl (by kernel_rfl) fun _ h => run_loadE rfl rfl ((h.row 1 rfl).cells 2 1) (by kernel_rfl)
             ·exact .call _ #[Str t2.loc] (.bool (isWd t2.loc)) rfl (by kernel_rfl) (fun w => (run_callE en_cantileverref03_Word rfl rfl (by kernel_rfl))) (fun w hM => ref_Wd t2.loc _ (by omega))
             ·exact .val _ rfl (by kernel_rfl) (fun w hM => (okBool (run_neB rfl rfl rfl) h26))
             iterate 3 exact .val _ rfl (by kernel_rfl) fun _ _ => by kernel_rfl
             ·exact .val _ rfl (by kernel_rfl) fun _ h => run_loadE rfl rfl ((h.row 0 rfl).cells 1 1) (by kernel_rfl)
             ·exact .val _ rfl (by kernel_rfl) (fun w hM => (okBool (by kernel_rfl) h27))
             iterate 2 exact .val _ rfl (by kernel_rfl) fun _ _ => by kernel_rfl
             ·exact .val _ rfl (by kernel_rfl) fun _ h => run_loadE rfl rfl ((h.row 1 rfl).cells 2 1) (by kernel_rfl)
             ·exact .val _ rfl (by kernel_rfl) (fun w hM => (okBool (run_neS rfl rfl rfl) h28))
             iterate 4 exact .val _ rfl (by kernel_rfl) fun _ _ => by kernel_rfl
             ·exact .val _ rfl (by kernel_rfl) fun _ h => run_loadE rfl rfl ((h.row 1 rfl).cells 4 1) (by kernel_rfl)
             iterate 2 exact .val _ rfl (by kernel_rfl) fun _ _ => by kernel_rfl
             ·exact .val _ rfl (by kernel_rfl) fun _ h => run_loadE rfl rfl ((h.row 0 rfl).cells 3 1) (by kernel_rfl)
             ·exact .val _ rfl (by kernel_rfl) (fun w hM => (okBool (by kernel_rfl) h29))
             iterate 3 exact .val _ rfl (by kernel_rfl) fun _ _ => by kernel_rfl
             ·exact .val _ rfl (by kernel_rfl) fun _ h => run_loadE rfl rfl ((h.row 0 rfl).cells 4 1) (by kernel_rfl)
             ·exact .val _ rfl (by kernel_rfl) (fun w hM => (okBool (by kernel_rfl) h30))
             ·exact .val _ rfl (by kernel_rfl) fun _ _ => by kernel_rfl
             iterate 4 exact .skip rfl (by kernel_rfl)
             iterate 4 exact .val _ rfl (by kernel_rfl) fun _ _ => by kernel_rfl
             ·exact .val _ rfl (by kernel_rfl) fun _ h => run_loadE rfl rfl ((h.row 0 rfl).cells 5 1) (by kernel_rfl)
             ·exact .val _ rfl (by kernel_rfl) (fun w hM => (okBool (by kernel_rfl) h34))
             iterate 2 exact .val _ rfl (by kernel_rfl) fun _ _ => by kernel_rfl
             ·exact .val _ rfl (by kernel_rfl) fun _ h => run_loadE rfl rfl ((h.row 1 rfl).cells 6 1) (by kernel_rfl)
             ·exact .val _ rfl (by kernel_rfl) fun _ _ => by kernel_rfl
             ·exact .val _ rfl (by kernel_rfl) (fun w hM => (okBool (by kernel_rfl) (decide_eq_true h35)))
             iterate 2 exact .val _ rfl (by kernel_rfl) fun _ _ => by kernel_rfl
             have e91 : smBad1 t2 = true := by unfold smBad1; rw [h5, h6, h7, h26, h27, h28, h29, h30, h34, (decide_eq_true h35)]; rfl
             exact ⟨rfl, ⟨(by rw [e91]; exact hK.sub ⟨rfl, rfl, rfl, rfl, rfl, rfl, rfl, rfl, trivial⟩), hM⟩⟩
            ·refine region_any (F := fun w => Mem w0 w [.row b4 98 (cP t2), .row b3 30 (cS t2)]) hK [some (.bool (ptIs t2.kind)), some (.bool (!(ptIs t2.kind))), sF, some (pA b4 0), some (.bool (ptNm t2.kind)), some (pA b3 1), some (Str t2.nm), some (.bool (isWd t2.nm)), sF, sF, sF, some (pA b4 0), some (.bool (ptNm t2.kind)), sF, sF, sU, sU, sU, sF, sF, sF, some (pA b4 1), some (.bool (ptLc t2.kind)), some (pA b3 2), some (Str t2.loc), some (.bool (isWd t2.loc)), sF, sF, sF, some (pA b4 1), some (.bool (ptLc t2.kind)), sT, sT, some (pA b3 2), some (Str t2.loc), sF, sF, sF, sF, some (pA b3 4), some (.slice t2.A1 t2.es.length t2.c1), some (.int .i64 ((t2.es.length : Nat) : Int)), some (pA b4 3), some (.int .i64 (ptEx t2.kind)), sF, sF, sF, some (pA b4 4), some (.bool (ptTh t2.kind)), sF, sF, sU, sU, sU, sU, sF, sF, sF, some (pA b4 5), some (.bool (ptEl t2.kind)), sT, sT, some (pA b3 6), some (.slice t2.A3 t2.el.length t2.c3), some (.int .i64 ((t2.el.length : Nat) : Int)), sF, sF, sF] 68 (fun _ _ hb hm => hm.go hb) hM (by kernel_rfl) (by kernel_rfl) ?_ [(91, .bool false), (6, .bool (ptIs t2.kind)), (5, pA b4 0), (4, pA b3 0), (11, .bool true), (2, .bool false), (0, .slice A l.length c), (3, .int .i64 ((i : Nat) : Int))] (by kernel_rfl) fun a w hK hM => ?_
             iterate 68 refine ⟨?_, ?_⟩
             trivial
             iterate 2 exact .val _ rfl (by kernel_rfl) fun _ _ => by kernel_rfl
             ·exact .val _ rfl (by kernel_rfl) (fun w hM => (okBool (by kernel_rfl) h5))
             ·exact .val _ rfl (by kernel_rfl) fun _ _ => by kernel_rfl
             ·exact .val _ rfl (by kernel_rfl) fun _ h => run_loadE rfl rfl ((h.row 0 rfl).cells 0 1) (by kernel_rfl)
             ·exact .val _ rfl (by kernel_rfl) fun _ _ => by kernel_rfl
             ·exact .val _ rfl (by kernel_rfl) fun _ h => run_loadE rfl rfl ((h.row 1 rfl).cells 1 1) (by kernel_rfl)
             ·exact .call _ #[Str t2.nm] (.bool (isWd t2.nm)) rfl (by kernel_rfl) (fun w => (run_callE en_cantileverref03_Word rfl rfl (by kernel_rfl))) (fun w hM => ref_Wd t2.nm _ (by omega))
             ·exact .val _ rfl (by kernel_rfl) (fun w hM => (okBool (run_neB rfl rfl rfl) h6))
             iterate 3 exact .val _ rfl (by kernel_rfl) fun _ _ => by kernel_rfl
             ·exact .val _ rfl (by kernel_rfl) fun _ h => run_loadE rfl rfl ((h.row 0 rfl).cells 0 1) (by kernel_rfl)
             ·exact .val _ rfl (by kernel_rfl) (fun w hM => (okBool (by kernel_rfl) h7))
             ·exact .val _ rfl (by kernel_rfl) fun _ _ => by kernel_rfl
             iterate 3 exact .skip rfl (by kernel_rfl)
             iterate 4 exact .val _ rfl (by kernel_rfl) fun _ _ => by kernel_rfl
             ·exact .val _ rfl (by kernel_rfl) fun _ h => run_loadE rfl rfl ((h.row 0 rfl).cells 1 1) (by kernel_rfl)
             ·exact .val _ rfl (by kernel_rfl) fun _ _ => by kernel_rfl
             ·exact .val _ rfl (by kernel_rfl) fun _ h => run_loadE rfl rfl ((h.row 1 rfl).cells 2 1) (by kernel_rfl)
             ·exact .call _ #[Str t2.loc] (.bool (isWd t2.loc)) rfl (by kernel_rfl) (fun w => (run_callE en_cantileverref03_Word rfl rfl (by kernel_rfl))) (fun w hM => ref_Wd t2.loc _ (by omega))
             ·exact .val _ rfl (by kernel_rfl) (fun w hM => (okBool (run_neB rfl rfl rfl) h26))
             iterate 3 exact .val _ rfl (by kernel_rfl) fun _ _ => by kernel_rfl
             ·exact .val _ rfl (by kernel_rfl) fun _ h => run_loadE rfl rfl ((h.row 0 rfl).cells 1 1) (by kernel_rfl)
             ·exact .val _ rfl (by kernel_rfl) (fun w hM => (okBool (by kernel_rfl) h27))
             iterate 2 exact .val _ rfl (by kernel_rfl) fun _ _ => by kernel_rfl
             ·exact .val _ rfl (by kernel_rfl) fun _ h => run_loadE rfl rfl ((h.row 1 rfl).cells 2 1) (by kernel_rfl)
             ·exact .val _ rfl (by kernel_rfl) (fun w hM => (okBool (run_neS rfl rfl rfl) h28))
             iterate 4 exact .val _ rfl (by kernel_rfl) fun _ _ => by kernel_rfl
             ·exact .val _ rfl (by kernel_rfl) fun _ h => run_loadE rfl rfl ((h.row 1 rfl).cells 4 1) (by kernel_rfl)
             iterate 2 exact .val _ rfl (by kernel_rfl) fun _ _ => by kernel_rfl
             ·exact .val _ rfl (by kernel_rfl) fun _ h => run_loadE rfl rfl ((h.row 0 rfl).cells 3 1) (by kernel_rfl)
             ·exact .val _ rfl (by kernel_rfl) (fun w hM => (okBool (by kernel_rfl) h29))
             iterate 3 exact .val _ rfl (by kernel_rfl) fun _ _ => by kernel_rfl
             ·exact .val _ rfl (by kernel_rfl) fun _ h => run_loadE rfl rfl ((h.row 0 rfl).cells 4 1) (by kernel_rfl)
             ·exact .val _ rfl (by kernel_rfl) (fun w hM => (okBool (by kernel_rfl) h30))
             ·exact .val _ rfl (by kernel_rfl) fun _ _ => by kernel_rfl
             iterate 4 exact .skip rfl (by kernel_rfl)
             iterate 4 exact .val _ rfl (by kernel_rfl) fun _ _ => by kernel_rfl
             ·exact .val _ rfl (by kernel_rfl) fun _ h => run_loadE rfl rfl ((h.row 0 rfl).cells 5 1) (by kernel_rfl)
             ·exact .val _ rfl (by kernel_rfl) (fun w hM => (okBool (by kernel_rfl) h34))
             iterate 2 exact .val _ rfl (by kernel_rfl) fun _ _ => by kernel_rfl
             ·exact .val _ rfl (by kernel_rfl) fun _ h => run_loadE rfl rfl ((h.row 1 rfl).cells 6 1) (by kernel_rfl)
             ·exact .val _ rfl (by kernel_rfl) fun _ _ => by kernel_rfl
             ·exact .val _ rfl (by kernel_rfl) (fun w hM => (okBool (by kernel_rfl) (decide_eq_false h35)))
             iterate 2 exact .val _ rfl (by kernel_rfl) fun _ _ => by kernel_rfl
             have e91 : smBad1 t2 = false := by unfold smBad1; rw [h5, h6, h7, h26, h27, h28, h29, h30, h34, (decide_eq_false h35)]; rfl
             exact ⟨rfl, ⟨(by rw [e91]; exact hK.sub ⟨rfl, rfl, rfl, rfl, rfl, rfl, rfl, rfl, trivial⟩), hM⟩⟩
           ·refine region_any (F := fun w => Mem w0 w [.row b4 98 (cP t2), .row b3 30 (cS t2)]) hK [some (.bool (ptIs t2.kind)), some (.bool (!(ptIs t2.kind))), sF, some (pA b4 0), some (.bool (ptNm t2.kind)), some (pA b3 1), some (Str t2.nm), some (.bool (isWd t2.nm)), sF, sF, sF, some (pA b4 0), some (.bool (ptNm t2.kind)), sF, sF, sU, sU, sU, sF, sF, sF, some (pA b4 1), some (.bool (ptLc t2.kind)), some (pA b3 2), some (Str t2.loc), some (.bool (isWd t2.loc)), sF, sF, sF, some (pA b4 1), some (.bool (ptLc t2.kind)), sT, sT, some (pA b3 2), some (Str t2.loc), sF, sF, sF, sF, some (pA b3 4), some (.slice t2.A1 t2.es.length t2.c1), some (.int .i64 ((t2.es.length : Nat) : Int)), some (pA b4 3), some (.int .i64 (ptEx t2.kind)), sF, sF, sF, some (pA b4 4), some (.bool (ptTh t2.kind)), sF, sF, sU, sU, sU, sU, sF, sF, sF, some (pA b4 5), some (.bool (ptEl t2.kind)), sF, sF, sU, sU, sU, sU, sF, sF] 68 (fun _ _ hb hm => hm.go hb) hM (by kernel_rfl) (by kernel_rfl) ?_ [(91, .bool false), (6, .bool (ptIs t2.kind)), (5, pA b4 0), (4, pA b3 0), (11, .bool true), (2, .bool false), (0, .slice A l.length c), (3, .int .i64 ((i : Nat) : Int))] (by kernel_rfl) fun a w hK hM => ?_
            iterate 68 refine ⟨?_, ?_⟩
            trivial
            iterate 2 exact .val _ rfl (by kernel_rfl) fun _ _ => by kernel_rfl
            ·exact .val _ rfl (by kernel_rfl) (fun w hM => (okBool (by kernel_rfl) h5))
            ·exact .val _ rfl (by kernel_rfl) fun _ _ => by kernel_rfl
            ·exact .val _ rfl (by kernel_rfl) fun _ h => run_loadE rfl rfl ((h.row 0 rfl).cells 0 1) (by kernel_rfl)
            ·exact .val _ rfl (by kernel_rfl) fun _ _ => by kernel_rfl
            ·exact .val _ rfl (by kernel_rfl) fun _ h => run_loadE rfl rfl ((h.row 1 rfl).cells 1 1) (by kernel_rfl)
            ·exact .call _ #[Str t2.nm] (.bool (isWd t2.nm)) rfl (by kernel_rfl) (fun w => (run_callE en_cantileverref03_Word rfl rfl (by kernel_rfl))) (fun w hM => ref_Wd t2.nm _ (by omega))
            ·exact .val _ rfl (by kernel_rfl) (fun w hM => (okBool (run_neB rfl rfl rfl) h6))
            iterate 3 exact .val _ rfl (by kernel_rfl) fun _ _ => by kernel_rfl
            ·exact .val _ rfl (by kernel_rfl) fun _ h => run_loadE rfl rfl ((h.row 0 rfl).cells 0 1) (by kernel_rfl)
            ·exact .val _ rfl (by kernel_rfl) (fun w hM => (okBool (by kernel_rfl) h7))
            ·exact .val _ rfl (by kernel_rfl) fun _ _ => by kernel_rfl
            iterate 3 exact .skip rfl (by kernel_rfl)
            iterate 4 exact .val _ rfl (by kernel_rfl) fun _ _ => by kernel_rfl
            ·exact .val _ rfl (by kernel_rfl) fun _ h => run_loadE rfl rfl ((h.row 0 rfl).cells 1 1) (by kernel_rfl)
            ·exact .val _ rfl (by kernel_rfl) fun _ _ => by kernel_rfl
            ·exact .val _ rfl (by kernel_rfl) fun _ h => run_loadE rfl rfl ((h.row 1 rfl).cells 2 1) (by kernel_rfl)
            ·exact .call _ #[Str t2.loc] (.bool (isWd t2.loc)) rfl (by kernel_rfl) (fun w => (run_callE en_cantileverref03_Word rfl rfl (by kernel_rfl))) (fun w hM => ref_Wd t2.loc _ (by omega))
            ·exact .val _ rfl (by kernel_rfl) (fun w hM => (okBool (run_neB rfl rfl rfl) h26))
            iterate 3 exact .val _ rfl (by kernel_rfl) fun _ _ => by kernel_rfl
            ·exact .val _ rfl (by kernel_rfl) fun _ h => run_loadE rfl rfl ((h.row 0 rfl).cells 1 1) (by kernel_rfl)
            ·exact .val _ rfl (by kernel_rfl) (fun w hM => (okBool (by kernel_rfl) h27))
            iterate 2 exact .val _ rfl (by kernel_rfl) fun _ _ => by kernel_rfl
            ·exact .val _ rfl (by kernel_rfl) fun _ h => run_loadE rfl rfl ((h.row 1 rfl).cells 2 1) (by kernel_rfl)
            ·exact .val _ rfl (by kernel_rfl) (fun w hM => (okBool (run_neS rfl rfl rfl) h28))
            iterate 4 exact .val _ rfl (by kernel_rfl) fun _ _ => by kernel_rfl
            ·exact .val _ rfl (by kernel_rfl) fun _ h => run_loadE rfl rfl ((h.row 1 rfl).cells 4 1) (by kernel_rfl)
            iterate 2 exact .val _ rfl (by kernel_rfl) fun _ _ => by kernel_rfl
            ·exact .val _ rfl (by kernel_rfl) fun _ h => run_loadE rfl rfl ((h.row 0 rfl).cells 3 1) (by kernel_rfl)
            ·exact .val _ rfl (by kernel_rfl) (fun w hM => (okBool (by kernel_rfl) h29))
            iterate 3 exact .val _ rfl (by kernel_rfl) fun _ _ => by kernel_rfl
            ·exact .val _ rfl (by kernel_rfl) fun _ h => run_loadE rfl rfl ((h.row 0 rfl).cells 4 1) (by kernel_rfl)
            ·exact .val _ rfl (by kernel_rfl) (fun w hM => (okBool (by kernel_rfl) h30))
            ·exact .val _ rfl (by kernel_rfl) fun _ _ => by kernel_rfl
            iterate 4 exact .skip rfl (by kernel_rfl)
            iterate 4 exact .val _ rfl (by kernel_rfl) fun _ _ => by kernel_rfl
            ·exact .val _ rfl (by kernel_rfl) fun _ h => run_loadE rfl rfl ((h.row 0 rfl).cells 5 1) (by kernel_rfl)
            ·exact .val _ rfl (by kernel_rfl) (fun w hM => (okBool (by kernel_rfl) h34))
            ·exact .val _ rfl (by kernel_rfl) fun _ _ => by kernel_rfl
            iterate 4 exact .skip rfl (by kernel_rfl)
            iterate 2 exact .val _ rfl (by kernel_rfl) fun _ _ => by kernel_rfl
            have e91 : smBad1 t2 = false := by unfold smBad1; rw [h5, h6, h7, h26, h27, h28, h29, h30, h34]; rfl
            exact ⟨rfl, ⟨(by rw [e91]; exact hK.sub ⟨rfl, rfl, rfl, rfl, rfl, rfl, rfl, rfl, trivial⟩), hM⟩⟩
       ·rcases Bool.eq_false_or_eq_true (!(decide ((((t2.es.length : Nat) : Int) : Int) = (ptEx t2.kind)))) with h36 | h36
        ·refine region_any (F := fun w => Mem w0 w [.row b4 98 (cP t2), .row b3 30 (cS t2)]) hK [some (.bool (ptIs t2.kind)), some (.bool (!(ptIs t2.kind))), sF, some (pA b4 0), some (.bool (ptNm t2.kind)), some (pA b3 1), some (Str t2.nm), some (.bool (isWd t2.nm)), sF, sF, sF, some (pA b4 0), some (.bool (ptNm t2.kind)), sF, sF, sU, sU, sU, sF, sF, sF, some (pA b4 1), some (.bool (ptLc t2.kind)), some (pA b3 2), some (Str t2.loc), some (.bool (isWd t2.loc)), sF, sF, sF, some (pA b4 1), some (.bool (ptLc t2.kind)), sF, sF, sU, sU, sU, sF, sF, sF, some (pA b3 4), some (.slice t2.A1 t2.es.length t2.c1), some (.int .i64 ((t2.es.length : Nat) : Int)), some (pA b4 3), some (.int .i64 (ptEx t2.kind)), sT, sT, sT, sU, sU, sU, sU, sU, sU, sU, sU, sU, sT, sT, sU, sU, sU, sU, sU, sU, sU, sU, sU, sT] 68 (fun _ _ hb hm => hm.go hb) hM (by kernel_rfl) (by kernel_rfl) ?_ [(91, .bool true), (6, .bool (ptIs t2.kind)), (5, pA b4 0), (4, pA b3 0), (11, .bool true), (2, .bool false), (0, .slice A l.length c), (3, .int .i64 ((i : Nat) : Int))] (by kernel_rfl) fun a w hK hM => ?_
         iterate 68 refine ⟨?_, ?_⟩
         trivial
         iterate 2 exact .val _ rfl (by kernel_rfl) fun _ _ => by kernel_rfl
         ·exact .val _ rfl (by kernel_rfl) (fun w hM => (okBool (by kernel_rfl) h5))
         ·exact .val _ rfl (by kernel_rfl) fun _ _ => by kernel_rfl
         ·exact .val _ rfl (by kernel_rfl) fun _ h => run_loadE rfl rfl ((h.row 0 rfl).cells 0 1) (by kernel_rfl)
         ·exact .val _ rfl (by kernel_rfl) fun _ _ => by kernel_rfl
         ·exact .val _ rfl (by kernel_rfl) fun _ h => run_loadE rfl rfl ((h.row 1 rfl).cells 1 1) (by kernel_rfl)
         ·exact .call _ #[Str t2.nm] (.bool (isWd t2.nm)) rfl (by kernel_rfl) (fun w => (run_callE en_cantileverref03_Word rfl rfl (by kernel_rfl))) (fun w hM => ref_Wd t2.nm _ (by omega))
         ·exact .val _ rfl (by kernel_rfl) (fun w hM => (okBool (run_neB rfl rfl rfl) h6))
         iterate 3 exact .val _ rfl (by kernel_rfl) fun _ _ => by kernel_rfl
         ·exact .val _ rfl (by kernel_rfl) fun _ h => run_loadE rfl rfl ((h.row 0 rfl).cells 0 1) (by kernel_rfl)
         ·exact .val _ rfl (by kernel_rfl) (fun w hM => (okBool (by kernel_rfl) h7))
         ·exact .val _ rfl (by kernel_rfl) fun _ _ => by kernel_rfl
         iterate 3 exact .skip rfl (by kernel_rfl)
         iterate 4 exact .val _ rfl (by kernel_rfl) fun _ _ => by kernel_rfl
         ·exact .val _ rfl (by kernel_rfl) fun _ h => run_loadE rfl rfl ((h.row 0 rfl).cells 1 1) (by kernel_rfl)
         ·exact .val _ rfl (by kernel_rfl) fun _ _ => by kernel_rfl
         ·exact .val _ rfl (by kernel_rfl) fun _ h => run_loadE rfl rfl ((h.row 1 rfl).cells 2 1) (by kernel_rfl)
         ·exact .call _ #[Str t2.loc] (.bool (isWd t2.loc)) rfl (by kernel_rfl) (fun w => (run_callE en_cantileverref03_Word rfl rfl (by kernel_rfl))) (fun w hM => ref_Wd t2.loc _ (by omega))
         ·exact .val _ rfl (by kernel_rfl) (fun w hM => (okBool (run_neB rfl rfl rfl) h26))
         iterate 3 exact .val _ rfl (by kernel_rfl) fun _ _ => by kernel_rfl
         ·exact .val _ rfl (by kernel_rfl) fun _ h => run_loadE rfl rfl ((h.row 0 rfl).cells 1 1) (by kernel_rfl)
         ·exact .val _ rfl (by kernel_rfl) (fun w hM => (okBool (by kernel_rfl) h27))
         ·exact .val _ rfl (by kernel_rfl) fun _ _ => by kernel_rfl
         iterate 3 exact .skip rfl (by kernel_rfl)
         iterate 4 exact .val _ rfl (by kernel_rfl) fun _ _ => by kernel_rfl
         ·exact .val _ rfl (by kernel_rfl) fun _ h => run_loadE rfl rfl ((h.row 1 rfl).cells 4 1) (by kernel_rfl)
         iterate 2 exact .val _ rfl (by kernel_rfl) fun _ _ => by kernel_rfl
         ·exact .val _ rfl (by kernel_rfl) fun _ h => run_loadE rfl rfl ((h.row 0 rfl).cells 3 1) (by kernel_rfl)
         ·exact .val _ rfl (by kernel_rfl) (fun w hM => (okBool (by kernel_rfl) h36))
         iterate 2 exact .val _ rfl (by kernel_rfl) fun _ _ => by kernel_rfl
         iterate 9 exact .skip rfl (by kernel_rfl)
         iterate 2 exact .val _ rfl (by kernel_rfl) fun _ _ => by kernel_rfl
         iterate 9 exact .skip rfl (by kernel_rfl)
         ·exact .val _ rfl (by kernel_rfl) fun _ _ => by kernel_rfl
         have e91 : smBad1 t2 = true := by unfold smBad1; rw [h5, h6, h7, h26, h27, h36]; rfl
         exact ⟨rfl, ⟨(by rw [e91]; exact hK.sub ⟨rfl, rfl, rfl, rfl, rfl, rfl, rfl, rfl, trivial⟩), hM⟩⟩
        ·rcases Bool.eq_false_or_eq_true (!(ptTh t2.kind)) with h37 | h37
         ·by_cases h38 : (0 : Int) < ((t2.th.length : Nat) : Int)
          ·refine region_any (F := fun w => Mem w0 w [.row b4 98 (cP t2), .row b3 30 (cS t2)]) hK [some (.bool (ptIs t2.kind)), some (.bool (!(ptIs t2.kind))), sF, some (pA b4 0), some (.bool (ptNm t2.kind)), some (pA b3 1), some (Str t2.nm), some (.bool (isWd t2.nm)), sF, sF, sF, some (pA b4 0), some (.bool (ptNm t2.kind)), sF, sF, sU, sU, sU, sF, sF, sF, some (pA b4 1), some (.bool (ptLc t2.kind)), some (pA b3 2), some (Str t2.loc), some (.bool (isWd t2.loc)), sF, sF, sF, some (pA b4 1), some (.bool (ptLc t2.kind)), sF, sF, sU, sU, sU, sF, sF, sF, some (pA b3 4), some (.slice t2.A1 t2.es.length t2.c1), some (.int .i64 ((t2.es.length : Nat) : Int)), some (pA b4 3), some (.int .i64 (ptEx t2.kind)), sF, sF, sF, some (pA b4 4), some (.bool (ptTh t2.kind)), sT, sT, some (pA b3 5), some (.slice t2.A2 t2.th.length t2.c2), some (.int .i64 ((t2.th.length : Nat) : Int)), sT, sT, sT, sT, sU, sU, sU, sU, sU, sU, sU, sU, sU, sT] 68 (fun _ _ hb hm => hm.go hb) hM (by kernel_rfl) (by kernel_rfl) ?_ [(91, .bool true), (6, .bool (ptIs t2.kind)), (5, pA b4 0), (4, pA b3 0), (11, .bool true), (2, .bool false), (0, .slice A l.length c), (3, .int .i64 ((i : Nat) : Int))] (by kernel_rfl) fun a w hK hM => ?_
           iterate 68 refine ⟨?_, ?_⟩
           trivial
           iterate 2 exact .val _ rfl (by kernel_rfl) fun _ _ => by kernel_rfl
           ·exact .val _ rfl (by kernel_rfl) (fun w hM => (okBool (by kernel_rfl) h5))
           ·exact .val _ rfl (by kernel_rfl) fun _ _ => by kernel_rfl
           ·exact .val _ rfl (by kernel_rfl) fun _ h => run_loadE rfl rfl ((h.row 0 rfl).cells 0 1) (by kernel_rfl)
           ·exact .val _ rfl (by kernel_rfl) fun _ _ => by kernel_rfl
           ·exact .val _ rfl (by kernel_rfl) fun _ h => run_loadE rfl rfl ((h.row 1 rfl).cells 1 1) (by kernel_rfl)
           ·exact .call _ #[Str t2.nm] (.bool (isWd t2.nm)) rfl (by kernel_rfl) (fun w => (run_callE en_cantileverref03_Word rfl rfl (by kernel_rfl))) (fun w hM => ref_Wd t2.nm _ (by omega))
           ·exact .val _ rfl (by kernel_rfl) (fun w hM => (okBool (run_neB rfl rfl rfl) h6))
           iterate 3 exact .val _ rfl (by kernel_rfl) fun _ _ => by kernel_rfl
           ·exact .val _ rfl (by kernel_rfl) fun _ h => run_loadE rfl rfl ((h.row 0 rfl).cells 0 1) (by kernel_rfl)
           ·exact .val _ rfl (by kernel_rfl) (fun w hM => (okBool (by kernel_rfl) h7))
           ·exact .val _ rfl (by kernel_rfl) fun _ _ => by kernel_rfl
           iterate 3 exact .skip rfl (by kernel_rfl)
           iterate 4 exact .val _ rfl (by kernel_rfl) fun _ _ => by kernel_rfl
           ·exact .val _ rfl (by kernel_rfl) fun _ h => run_loadE rfl rfl ((h.row 0 rfl).cells 1 1) (by kernel_rfl)
           ·exact .val _ rfl (by kernel_rfl) fun _ _ => by kernel_rfl
           ·exact .val _ rfl (by kernel_rfl) fun _ h => run_loadE rfl rfl ((h.row 1 rfl).cells 2 1) (by kernel_rfl)
           ·exact .call _ #[Str t2.loc] (.bool (isWd t2.loc)) rfl (by kernel_rfl) (fun w => (run_callE en_cantileverref03_Word rfl rfl (by kernel_rfl))) (fun w hM => ref_Wd t2.loc _ (by omega))
           ·exact .val _ rfl (by kernel_rfl) (fun w hM => (okBool (run_neB rfl rfl rfl) h26))
           iterate 3 exact .val _ rfl (by kernel_rfl) fun _ _ => by kernel_rfl
           ·exact .val _ rfl (by kernel_rfl) fun _ h => run_loadE rfl rfl ((h.row 0 rfl).cells 1 1) (by kernel_rfl)
           ·exact .val _ rfl (by kernel_rfl) (fun w hM => (okBool (by kernel_rfl) h27))
           ·exact .val _ rfl (by kernel_rfl) fun _ _ => by kernel_rfl
           iterate 3 exact .skip rfl (by kernel_rfl)
           iterate 4 exact .val _ rfl (by kernel_rfl) fun _ _ => by kernel_rfl
           ·exact .val _ rfl (by kernel_rfl) fun _ h => run_loadE rfl rfl ((h.row 1 rfl).cells 4 1) (by kernel_rfl)
           iterate 2 exact .val _ rfl (by kernel_rfl) fun _ _ => by kernel_rfl
           ·exact .val _ rfl (by kernel_rfl) fun _ h => run_loadE rfl rfl ((h.row 0 rfl).cells 3 1) (by kernel_rfl)
           ·exact .val _ rfl (by kernel_rfl) (fun w hM => (okBool (by kernel_rfl) h36))
           iterate 3 exact .val _ rfl (by kernel_rfl) fun _ _ => by kernel_rfl
           ·exact .val _ rfl (by kernel_rfl) fun _ h => run_loadE rfl rfl ((h.row 0 rfl).cells 4 1) (by kernel_rfl)
           ·exact .val _ rfl (by kernel_rfl) (fun w hM => (okBool (by kernel_rfl) h37))
           iterate 2 exact .val _ rfl (by kernel_rfl) fun _ _ => by kernel_rfl
           ·exact .val _ rfl (by kernel_rfl) fun _ h => run_loadE rfl rfl ((h.row 1 rfl).cells 5 1) (by kernel_rfl)
           ·exact .val _ rfl (by kernel_rfl) fun _ _ => by kernel_rfl
           ·exact .val _ rfl (by kernel_rfl) (fun w hM => (okBool (by kernel_rfl) (decide_eq_true h38)))
           iterate 3 exact .val _ rfl (by kernel_rfl) fun _ _ => by kernel_rfl
           iterate 9 exact .skip rfl (by kernel_rfl)
           ·exact .val _ rfl (by kernel_rfl) fun _ _ => by kernel_rfl
           have e91 : smBad1 t2 = true := by unfold smBad1; rw [h5, h6, h7, h26, h27, h36, h37, (decide_eq_true h38)]; rfl
           exact ⟨rfl, ⟨(by rw [e91]; exact hK.sub ⟨rfl, rfl, rfl, rfl, rfl, rfl, rfl, rfl, trivial⟩), hM⟩⟩
          ·rcases Bool.eq_false_or_eq_true (!(ptEl t2.kind)) with h39 | h39
           ·by_cases h40 : (0 : Int) < ((t2.el.length : Nat) : Int)
            ·refine region_any (F := fun w => Mem w0 w [.row b4 98 (cP t2), .row b3 30 (cS t2)]) hK [some (.bool (ptIs t2.kind)), some (.bool (!(ptIs t2.kind))), sF, some (pA b4 0), some (.bool (ptNm t2.kind)), some (pA b3 1), some (Str t2.nm), some (.bool (isWd t2.nm)), sF, sF, sF, some (pA b4 0), some (.bool (ptNm t2.kind)), sF, sF, sU, sU, sU, sF, sF, sF, some (pA b4 1), some (.bool (ptLc t2.kind)), some (pA b3 2), some (Str t2.loc), some (.bool (isWd t2.loc)), sF, sF, sF, some (pA b4 1), some (.bool (ptLc t2.kind)), sF, sF, sU, sU, sU, sF, sF, sF, some (pA b3 4), some (.slice t2.A1 t2.es.length t2.c1), some (.int .i64 ((t2.es.length : Nat) : Int)), some (pA b4 3), some (.int .i64 (ptEx t2.kind)), sF, sF, sF, some (pA b4 4), some (.bool (ptTh t2.kind)), sT, sT, some (pA b3 5), some (.slice t2.A2 t2.th.length t2.c2), some (.int .i64 ((t2.th.length : Nat) : Int)), sF, sF, sF, sF, some (pA b4 5), some (.bool (ptEl t2.kind)), sT, sT, some (pA b3 6), some (.slice t2.A3 t2.el.length t2.c3), some (.int .i64 ((t2.el.length : Nat) : Int)), sT, sT, sT] 68 (fun _ _ hb hm => hm.go hb) hM (by kernel_rfl) (by kernel_rfl) ?_ [(91, .bool true), (6, .bool (ptIs t2.kind)), (5, pA b4 0), (4, pA b3 0), (11, .bool true), (2, .bool false), (0, .slice A l.length c), (3, .int .i64 ((i : Nat) : Int))] (by kernel_rfl) fun a w hK hM => ?_
             iterate 68 refine ⟨?_, ?_⟩
             trivial
             iterate 2 exact .val _ rfl (by kernel_rfl) fun _ _ => by kernel_rfl
             ·exact .val _ rfl (by kernel_rfl) (fun w hM => (okBool (by kernel_rfl) h5))
             ·exact .val _ rfl (by kernel_rfl) fun _ _ => by kernel_rfl
             ·exact .val _ rfl (by kernel_rfl) fun _ h => run_loadE rfl rfl ((h.row 0 rfl).cells 0 1) (by kernel_rfl)
             ·exact .val _ rfl (by kernel_rfl) fun _ _ => by kernel_rfl
             ·exact .val _ rfl (by kernel_rfl) fun _ h => run_loadE rfl rfl ((h.row 1 rfl).cells 1 1) (by kernel_rfl)
             ·exact .call _ #[Str t2.nm] (.bool (isWd t2.nm)) rfl (by kernel_rfl) (fun w => (run_callE en_cantileverref03_Word rfl rfl (by kernel_rfl))) (fun w hM => ref_Wd t2.nm _ (by omega))
             ·exact .val _ rfl (by kernel_rfl) (fun w hM => (okBool (run_neB rfl rfl rfl) h6))
             iterate 3 exact .val _ rfl (by kernel_rfl) fun _ _ => by kernel_rfl
             ·exact .val _ rfl (by kernel_rfl) fun _ h => run_loadE rfl rfl ((h.row 0 rfl).cells 0 1) (by kernel_rfl)
             ·exact .val _ rfl (by kernel_rfl) (fun w hM => (okBool (by kernel_rfl) h7))
             ·exact .val _ rfl (by kernel_rfl) fun _ _ => by kernel_rfl
             iterate 3 exact .skip rfl (by kernel_rfl)
             iterate 4 exact .val _ rfl (by kernel_rfl) fun _ _ => by kernel_rfl
             ·exact .val _ rfl (by kernel_rfl) fun _ h => run_loadE rfl rfl ((h.row 0 rfl).cells 1 1) (by kernel_rfl)
             ·exact .val _ rfl (by kernel_rfl) fun _ _ => by kernel_rfl
             ·exact .val _ rfl (by kernel_rfl) fun _ h => run_loadE rfl rfl ((h.row 1 rfl).cells 2 1) (by kernel_rfl)
             ·exact .call _ #[Str t2.loc] (.bool (isWd t2.loc)) rfl (by kernel_rfl) (fun w => (run_callE en_cantileverref03_Word rfl rfl (by kernel_rfl))) (fun w hM => ref_Wd t2.loc _ (by omega))
             ·exact .val _ rfl (by kernel_rfl) (fun w hM => (okBool (run_neB rfl rfl rfl) h26))
             iterate 3 exact .val _ rfl (by kernel_rfl) fun _ _ => by kernel_rfl
             ·exact .val _ rfl (by kernel_rfl) fun _ h => run_loadE rfl rfl ((h.row 0 rfl).cells 1 1) (by kernel_rfl)
             ·exact .val _ rfl (by kernel_rfl) (fun w hM => (okBool (by kernel_rfl) h27))
             ·exact .val _ rfl (by kernel_rfl) fun _ _ => by kernel_rfl
             iterate 3 exact .skip rfl (by kernel_rfl)
             iterate 4 exact .val _ rfl (by kernel_rfl) fun _ _ => by kernel_rfl
             ·exact .val _ rfl (by kernel_rfl) fun _ h => run_loadE rfl rfl ((h.row 1 rfl).cells 4 1) (by kernel_rfl)
             iterate 2 exact .val _ rfl (by kernel_rfl) fun _ _ => by kernel_rfl
             ·exact .val _ rfl (by kernel_rfl) fun _ h => run_loadE rfl rfl ((h.row 0 rfl).cells 3 1) (by kernel_rfl)
             ·exact .val _ rfl (by kernel_rfl) (fun w hM => (okBool (by kernel_rfl) h36))
             iterate 3 exact .val _ rfl (by kernel_rfl) fun _ _ => by kernel_rfl
             ·exact .val _ rfl (by kernel_rfl) fun _ h => run_loadE rfl rfl ((h.row 0 rfl).cells 4 1) (by kernel_rfl)
             ·exact .val _ rfl (by kernel_rfl) (fun w hM => (okBool (by kernel_rfl) h37))
             iterate 2 exact .val _ rfl (by kernel_rfl) fun _ _ => by kernel_rfl
             ·exact .val _ rfl (by kernel_rfl) fun _ h => run_loadE rfl rfl ((h.row 1 rfl).cells 5 1) (by kernel_rfl)
             ·exact .val _ rfl (by kernel_rfl) fun _ _ => by kernel_rfl
             ·exact .val _ rfl (by kernel_rfl) (fun w hM => (okBool (by kernel_rfl) (decide_eq_false h38)))
             iterate 4 exact .val _ rfl (by kernel_rfl) fun _ _ => by kernel_rfl
             ·exact .val _ rfl (by kernel_rfl) fun _ h => run_loadE rfl rfl ((h.row 0 rfl).cells 5 1) (by kernel_rfl)
             ·exact .val _ rfl (by kernel_rfl) (fun w hM => (okBool (by kernel_rfl) h39))
             iterate 2 exact .val _ rfl (by kernel_rfl) fun _ _ => by kernel_rfl
             ·exact .val _ rfl (by kernel_rfl) fun _ h => run_loadE rfl rfl ((h.row 1 rfl).cells 6 1) (by kernel_rfl)
             ·exact .val _ rfl (by kernel_rfl) fun _ _ => by kernel_rfl
             ·exact .val _ rfl (by kernel_rfl) (fun w hM => (okBool (by kernel_rfl) (decide_eq_true h40)))
             iterate 2 exact .val _ rfl (by kernel_rfl) fun _ _ => by kernel_rfl
             have e91 : smBad1 t2 = true := by unfold smBad1; rw [h5, h6, h7, h26, h27, h36, h37, (decide_eq_false h38), h39, (decide_eq_true h40)]; rfl
             exact ⟨rfl, ⟨(by rw [e91]; exact hK.sub ⟨rfl, rfl, rfl, rfl, rfl, rfl, rfl, rfl, trivial⟩), hM⟩⟩
            ·refine region_any (F := fun w => Mem w0 w [.row b4 98 (cP t2), .row b3 30 (cS t2)]) hK [some (.bool (ptIs t2.kind)), some (.bool (!(ptIs t2.kind))), sF, some (pA b4 0), some (.bool (ptNm t2.kind)), some (pA b3 1), some (Str t2.nm), some (.bool (isWd t2.nm)), sF, sF, sF, some (pA b4 0), some (.bool (ptNm t2.kind)), sF, sF, sU, sU, sU, sF, sF, sF, some (pA b4 1), some (.bool (ptLc t2.kind)), some (pA b3 2), some (Str t2.loc), some (.bool (isWd t2.loc)), sF, sF, sF, some (pA b4 1), some (.bool (ptLc t2.kind)), sF, sF, sU, sU, sU, sF, sF, sF, some (pA b3 4), some (.slice t2.A1 t2.es.length t2.c1), some (.int .i64 ((t2.es.length : Nat) : Int)), some (pA b4 3), some (.int .i64 (ptEx t2.kind)), sF, sF, sF, some (pA b4 4), some (.bool (ptTh t2.kind)), sT, sT, some (pA b3 5), some (.slice t2.A2 t2.th.length t2.c2), some (.int .i64 ((t2.th.length : Nat) : Int)), sF, sF, sF, sF, some (pA b4 5), some (.bool (ptEl t2.kind)), sT, sT, some (pA b3 6), some (.slice t2.A3 t2.el.length t2.c3), some (.int .i64 ((t2.el.length : Nat) : Int)), sF, sF, sF] 68 (fun _ _ hb hm => hm.go hb) hM (by kernel_rfl) (by kernel_rfl) ?_ [(91, .bool false), (6, .bool (ptIs t2.kind)), (5, pA b4 0), (4, pA b3 0), (11, .bool true), (2, .bool false), (0, .slice A l.length c), (3, .int .i64 ((i : Nat) : Int))] (by kernel_rfl) fun a w hK hM => ?_
             iterate 68 refine ⟨?_, ?_⟩
             trivial
             iterate 2 exact .val _ rfl (by kernel_rfl) fun _ _ => by kernel_rfl
             ·exact .val _ rfl (by kernel_rfl) (fun w hM => (okBool (by kernel_rfl) h5))
             ·exact .val _ rfl (by kernel_rfl) fun _ _ => by kernel_rfl
             ·exact .val _ rfl (by kernel_rfl) fun _ h => run_loadE rfl rfl ((h.row 0 rfl).cells 0 1) (by kernel_rfl)
             ·exact .val _ rfl (by kernel_rfl) fun _ _ => by kernel_rfl
             ·exact .val _ rfl (by kernel_rfl) fun _ h => run_loadE rfl rfl ((h.row 1 rfl).cells 1 1) (by kernel_rfl)
             ·exact .call _ #[Str t2.nm] (.bool (isWd t2.nm)) rfl (by kernel_rfl) (fun w => (run_callE en_cantileverref03_Word rfl rfl (by kernel_rfl))) (fun w hM => ref_Wd t2.nm _ (by omega))
             ·exact .val _ rfl (by kernel_rfl) (fun w hM => (okBool (run_neB rfl rfl rfl) h6))
             iterate 3 exact .val _ rfl (by kernel_rfl) fun _ _ => by kernel_rfl
             ·exact .val _ rfl (by kernel_rfl) fun _ h => run_loadE rfl rfl ((h.row 0 rfl).cells 0 1) (by kernel_rfl)
             ·exact .val _ rfl (by kernel_rfl) (fun w hM => (okBool (by kernel_rfl) h7))
             ·exact .val _ rfl (by kernel_rfl) fun _ _ => by kernel_rfl
             iterate 3 exact .skip rfl (by kernel_rfl)
             iterate 4 exact .val _ rfl (by kernel_rfl) fun _ _ => by kernel_rfl
             ·exact .val _ rfl (by kernel_rfl) fun _ h => run_loadE rfl rfl ((h.row 0 rfl).cells 1 1) (by kernel_rfl)
             ·exact .val _ rfl (by kernel_rfl) fun _ _ => by kernel_rfl
             ·exact .val _ rfl (by kernel_rfl) fun _ h => run_loadE rfl rfl ((h.row 1 rfl).cells 2 1) (by kernel_rfl)
             ·exact .call _ #[Str t2.loc] (.bool (isWd t2.loc)) rfl (by kernel_rfl) (fun w => (run_callE en_cantileverref03_Word rfl rfl (by kernel_rfl))) (fun w hM => ref_Wd t2.loc _ (by omega))
             ·exact .val _ rfl (by kernel_rfl) (fun w hM => (okBool (run_neB rfl rfl rfl) h26))
             iterate 3 exact .val _ rfl (by kernel_rfl) fun _ _ => by kernel_rfl
             ·exact .val _ rfl (by kernel_rfl) fun _ h => run_loadE rfl rfl ((h.row 0 rfl).cells 1 1) (by kernel_rfl)
             ·exact .val _ rfl (by kernel_rfl) (fun w hM => (okBool (by kernel_rfl) h27))
             ·exact .val _ rfl (by kernel_rfl) fun _ _ => by kernel_rfl
             iterate 3 exact .skip rfl (by kernel_rfl)
             iterate 4 exact .val _ rfl (by kernel_rfl) fun _ _ => by kernel_rfl
             ·exact .val _ rfl (by kernel_rfl) fun _ h => run_loadE rfl rfl ((h.row 1 rfl).cells 4 1) (by kernel_rfl)
             iterate 2 exact .val _ rfl (by kernel_rfl) fun _ _ => by kernel_rfl
             ·exact .val _ rfl (by kernel_rfl) fun _ h => run_loadE rfl rfl ((h.row 0 rfl).cells 3 1) (by kernel_rfl)
             ·exact .val _ rfl (by kernel_rfl) (fun w hM => (okBool (by kernel_rfl) h36))
             iterate 3 exact .val _ rfl (by kernel_rfl) fun _ _ => by kernel_rfl
             ·exact .val _ rfl (by kernel_rfl) fun _ h => run_loadE rfl rfl ((h.row 0 rfl).cells 4 1) (by kernel_rfl)
             ·exact .val _ rfl (by kernel_rfl) (fun w hM => (okBool (by kernel_rfl) h37))
             iterate 2 exact .val _ rfl (by kernel_rfl) fun _ _ => by kernel_rfl
             ·exact .val _ rfl (by kernel_rfl) fun _ h => run_loadE rfl rfl ((h.row 1 rfl).cells 5 1) (by kernel_rfl)
             ·exact .val _ rfl (by kernel_rfl) fun _ _ => by kernel_rfl
             ·exact .val _ rfl (by kernel_rfl) (fun w hM => (okBool (by kernel_rfl) (decide_eq_false h38)))
             iterate 4 exact .val _ rfl (by kernel_rfl) fun _ _ => by kernel_rfl
             ·exact .val _ rfl (by kernel_rfl) fun _ h => run_loadE rfl rfl ((h.row 0 rfl).cells 5 1) (by kernel_rfl)
             ·exact .val _ rfl (by kernel_rfl) (fun w hM => (okBool (by kernel_rfl) h39))
             iterate 2 exact .val _ rfl (by kernel_rfl) fun _ _ => by kernel_rfl
             ·exact .val _ rfl (by kernel_rfl) fun _ h => run_loadE rfl rfl ((h.row 1 rfl).cells 6 1) (by kernel_rfl)
             ·exact .val _ rfl (by kernel_rfl) fun _ _ => by kernel_rfl
             ·exact .val _ rfl (by kernel_rfl) (fun w hM => (okBool (by kernel_rfl) (decide_eq_false h40)))
             iterate 2 exact .val _ rfl (by kernel_rfl) fun _ _ => by kernel_rfl
             have e91 : smBad1 t2 = false := by unfold smBad1; rw [h5, h6, h7, h26, h27, h36, h37, (decide_eq_false h38), h39, (decide_eq_false h40)]; rfl
             exact ⟨rfl, ⟨(by rw [e91]; exact hK.sub ⟨rfl, rfl, rfl, rfl, rfl, rfl, rfl, rfl, trivial⟩), hM⟩⟩
           ·refine region_any (F := fun w => Mem w0 w [.row b4 98 (cP t2), .row b3 30 (cS t2)]) hK [some (.bool (ptIs t2.kind)), some (.bool (!(ptIs t2.kind))), sF, some (pA b4 0), some (.bool (ptNm t2.kind)), some (pA b3 1), some (Str t2.nm), some (.bool (isWd t2.nm)), sF, sF, sF, some (pA b4 0), some (.bool (ptNm t2.kind)), sF, sF, sU, sU, sU, sF, sF, sF, some (pA b4 1), some (.bool (ptLc t2.kind)), some (pA b3 2), some (Str t2.loc), some (.bool (isWd t2.loc)), sF, sF, sF, some (pA b4 1), some (.bool (ptLc t2.kind)), sF, sF, sU, sU, sU, sF, sF, sF, some (pA b3 4), some (.slice t2.A1 t2.es.length t2.c1), some (.int .i64 ((t2.es.length : Nat) : Int)), some (pA b4 3), some (.int .i64 (ptEx t2.kind)), sF, sF, sF, some (pA b4 4), some (.bool (ptTh t2.kind)), sT, sT, some (pA b3 5), some (.slice t2.A2 t2.th.length t2.c2), some (.int .i64 ((t2.th.length : Nat) : Int)), sF, sF, sF, sF, some (pA b4 5), some (.bool (ptEl t2.kind)), sF, sF, sU, sU, sU, sU, sF, sF] 68 (fun _ _ hb hm => hm.go hb) hM (by kernel_rfl) (by kernel_rfl) ?_ [(91, .bool false), (6, .bool (ptIs t2.kind)), (5, pA b4 0), (4, pA b3 0), (11, .bool true), (2, .bool false), (0, .slice A l.length c), (3, .int .i64 ((i : Nat) : Int))] (by kernel_rfl) fun a w hK hM => ?_
            iterate 68 refine ⟨?_, ?_⟩
            trivial
            iterate 2 exact .val _ rfl (by kernel_rfl) fun _ _ => by kernel_rfl
            ·exact .val _ rfl (by kernel_rfl) (fun w hM => (okBool (by kernel_rfl) h5))
            ·exact .val _ rfl (by kernel_rfl) fun _ _ => by kernel_rfl
            ·exact .val _ rfl (by kernel_rfl) fun _ h => run_loadE rfl rfl ((h.row 0 rfl).cells 0 1) (by kernel_rfl)
            ·exact .val _ rfl (by kernel_rfl) fun _ _ => by kernel_rfl
            ·exact .val _ rfl (by kernel_rfl) fun _ h => run_loadE rfl rfl ((h.row 1 rfl).cells 1 1) (by kernel_rfl)
            ·exact .call _ #[Str t2.nm] (.bool (isWd t2.nm)) rfl (by kernel_rfl) (fun w => (run_callE en_cantileverref03_Word rfl rfl (by kernel_rfl))) (fun w hM => ref_Wd t2.nm _ (by omega))
            ·exact .val _ rfl (by kernel_rfl) (fun w hM => (okBool (run_neB rfl rfl rfl) h6))
            iterate 3 exact .val _ rfl (by kernel_rfl) fun _ _ => by kernel_rfl
            ·exact .val _ rfl (by kernel_rfl) fun _ h => run_loadE rfl rfl ((h.row 0 rfl).cells 0 1) (by kernel_rfl)
            ·exact .val _ rfl (by kernel_rfl) (fun w hM => (okBool (by kernel_rfl) h7))
            ·exact .val _ rfl (by kernel_rfl) fun _ _ => by kernel_rfl
            iterate 3 exact .skip rfl (by kernel_rfl)
            iterate 4 exact .val _ rfl (by kernel_rfl) fun _ _ => by kernel_rfl
            ·exact .val _ rfl (by kernel_rfl) fun _ h => run_loadE rfl rfl ((h.row 0 rfl).cells 1 1) (by kernel_rfl)
            ·exact .val _ rfl (by kernel_rfl) fun _ _ => by kernel_rfl
            ·exact .val _ rfl (by kernel_rfl) fun _ h => run_loadE rfl rfl ((h.row 1 rfl).cells 2 1) (by kernel_rfl)
            ·exact .call _ #[Str t2.loc] (.bool (isWd t2.loc)) rfl (by kernel_rfl) (fun w => (run_callE en_cantileverref03_Word rfl rfl (by kernel_rfl))) (fun w hM => ref_Wd t2.loc _ (by omega))
            ·exact .val _ rfl (by kernel_rfl) (fun w hM => (okBool (run_neB rfl rfl rfl) h26))
            iterate 3 exact .val _ rfl (by kernel_rfl) fun _ _ => by kernel_rfl
            ·exact .val _ rfl (by kernel_rfl) fun _ h => run_loadE rfl rfl ((h.row 0 rfl).cells 1 1) (by kernel_rfl)
            ·exact .val _ rfl (by kernel_rfl) (fun w hM => (okBool (by kernel_rfl) h27))
            ·exact .val _ rfl (by kernel_rfl) fun _ _ => by kernel_rfl
            iterate 3 exact .skip rfl (by kernel_rfl)
            iterate 4 exact .val _ rfl (by kernel_rfl) fun _ _ => by kernel_rfl
            ·exact .val _ rfl (by kernel_rfl) fun _ h => run_loadE rfl rfl ((h.row 1 rfl).cells 4 1) (by kernel_rfl)
            iterate 2 exact .val _ rfl (by kernel_rfl) fun _ _ => by kernel_rfl
            ·exact .val _ rfl (by kernel_rfl) fun _ h => run_loadE rfl rfl ((h.row 0 rfl).cells 3 1) (by kernel_rfl)
            ·exact .val _ rfl (by kernel_rfl) (fun w hM => (okBool (by kernel_rfl) h36))
            iterate 3 exact .val _ rfl (by kernel_rfl) fun _ _ => by kernel_rfl
            ·exact .val _ rfl (by kernel_rfl) fun _ h => run_loadE rfl rfl ((h.row 0 rfl).cells 4 1) (by kernel_rfl)
            ·exact .val _ rfl (by kernel_rfl) (fun w hM => (okBool (by kernel_rfl) h37))
            iterate 2 exact .val _ rfl (by kernel_rfl) fun _ _ => by kernel_rfl
            ·exact .val _ rfl (by kernel_rfl) fun _ h => run_loadE rfl rfl ((h.row 1 rfl).cells 5 1) (by kernel_rfl)
            ·exact .val _ rfl (by kernel_rfl) fun _ _ => by kernel_rfl
            ·exact .val _ rfl (by kernel_rfl) (fun w hM => (okBool (by kernel_rfl) (decide_eq_false h38)))
            iterate 4 exact .val _ rfl (by kernel_rfl) fun _ _ => by kernel_rfl
            ·exact .val _ rfl (by kernel_rfl) fun _ h => run_loadE rfl rfl ((h.row 0 rfl).cells 5 1) (by kernel_rfl)
            ·exact .val _ rfl (by kernel_rfl) (fun w hM => (okBool (by kernel_rfl) h39))
            ·exact .val _ rfl (by kernel_rfl) fun _ _ => by kernel_rfl
            iterate 4 exact .skip rfl (by kernel_rfl)
            iterate 2 exact .val _ rfl (by kernel_rfl) fun _ _ => by kernel_rfl
            have e91 : smBad1 t2 = false := by unfold smBad1; rw [h5, h6, h7, h26, h27, h36, h37, (decide_eq_false h38), h39]; rfl
            exact ⟨rfl, ⟨(by rw [e91]; exact hK.sub ⟨rfl, rfl, rfl, rfl, rfl, rfl, rfl, rfl, trivial⟩), hM⟩⟩
         ·rcases Bool.eq_false_or_eq_true (!(ptEl t2.kind)) with h41 | h41
          ·by_cases h42 : (0 : Int) < ((t2.el.length : Nat) : Int)
           ·refine region_any (F := fun w => Mem w0 w [.row b4 98 (cP t2), .row b3 30 (cS t2)]) hK [some (.bool (ptIs t2.kind)), some (.bool (!(ptIs t2.kind))), sF, some (pA b4 0), some (.bool (ptNm t2.kind)), some (pA b3 1), some (Str t2.nm), some (.bool (isWd t2.nm)), sF, sF, sF, some (pA b4 0), some (.bool (ptNm t2.kind)), sF, sF, sU, sU, sU, sF, sF, sF, some (pA b4 1), some (.bool (ptLc t2.kind)), some (pA b3 2), some (Str t2.loc), some (.bool (isWd t2.loc)), sF, sF, sF, some (pA b4 1), some (.bool (ptLc t2.kind)), sF, sF, sU, sU, sU, sF, sF, sF, some (pA b3 4), some (.slice t2.A1 t2.es.length t2.c1), some (.int .i64 ((t2.es.length : Nat) : Int)), some (pA b4 3), some (.int .i64 (ptEx t2.kind)), sF, sF, sF, some (pA b4 4), some (.bool (ptTh t2.kind)), sF, sF, sU, sU, sU, sU, sF, sF, sF, some (pA b4 5), some (.bool (ptEl t2.kind)), sT, sT, some (pA b3 6), some (.slice t2.A3 t2.el.length t2.c3), some (.int .i64 ((t2.el.length : Nat) : Int)), sT, sT, sT] 68 (fun _ _ hb hm => hm.go hb) hM (by kernel_rfl) (by kernel_rfl) ?_ [(91, .bool true), (6, .bool (ptIs t2.kind)), (5, pA b4 0), (4, pA b3 0), (11, .bool true), (2, .bool false), (0, .slice A l.length c), (3, .int .i64 ((i : Nat) : Int))] (by kernel_rfl) fun a w hK hM => ?_
            iterate 68 refine ⟨?_, ?_⟩
            trivial
            iterate 2 exact .val _ rfl (by kernel_rfl) fun _ _ => by kernel_rfl
            ·exact .val _ rfl (by kernel_rfl) (fun w hM => (okBool (by kernel_rfl) h5))
            ·exact .val _ rfl (by kernel_rfl) fun _ _ => by kernel_rfl
            ·exact .val _ rfl (by kernel_rfl) fun _ h => run_loadE rfl rfl ((h.row 0 rfl).cells 0 1) (by kernel_rfl)
            ·exact .val _ rfl (by kernel_rfl) fun _ _ => by kernel_rfl
            ·exact .val _ rfl (by kernel_rfl) fun _ h => run_loadE rfl rfl ((h.row 1 rfl).cells 1 1) (by kernel_rfl)
            ·exact .call _ #[Str t2.nm] (.bool (isWd t2.nm)) rfl (by kernel_rfl) (fun w => (run_callE en_cantileverref03_Word rfl rfl (by kernel_rfl))) (fun w hM => ref_Wd t2.nm _ (by omega))
            ·exact .val _ rfl (by kernel_rfl) (fun w hM => (okBool (run_neB rfl rfl rfl) h6))
            iterate 3 exact .val _ rfl (by kernel_rfl) fun _ _ => by kernel_rfl
            ·exact .val _ rfl (by kernel_rfl) fun _ h => run_loadE rfl rfl ((h.row 0 rfl).cells 0 1) (by kernel_rfl)
            ·exact .val _ rfl (by kernel_rfl) (fun w hM => (okBool (by kernel_rfl) h7))
            ·exact .val _ rfl (by kernel_rfl) fun _ _ => by kernel_rfl
            iterate 3 exact .skip rfl (by kernel_rfl)
            iterate 4 exact .val _ rfl (by kernel_rfl) fun _ _ => by kernel_rfl
            ·exact .val _ rfl (by kernel_rfl) fun _ h => run_loadE rfl rfl ((h.row 0 rfl).cells 1 1) (by kernel_rfl)
            ·exact .val _ rfl (by kernel_rfl) fun _ _ => by kernel_rfl
            ·exact .val _ rfl (by kernel_rfl) fun _ h => run_loadE rfl rfl ((h.row 1 rfl).cells 2 1) (by kernel_rfl)
            ·exact .call _ #[Str t2.loc] (.bool (isWd t2.loc)) rfl (by kernel_rfl) (fun w => (run_callE en_cantileverref03_Word rfl rfl (by kernel_rfl))) (fun w hM => ref_Wd t2.loc _ (by omega))
            ·exact .val _ rfl (by kernel_rfl) (fun w hM => (okBool (run_neB rfl rfl rfl) h26))
            iterate 3 exact .val _ rfl (by kernel_rfl) fun _ _ => by kernel_rfl
            ·exact .val _ rfl (by kernel_rfl) fun _ h => run_loadE rfl rfl ((h.row 0 rfl).cells 1 1) (by kernel_rfl)
            ·exact .val _ rfl (by kernel_rfl) (fun w hM => (okBool (by kernel_rfl) h27))
            ·exact .val _ rfl (by kernel_rfl) fun _ _ => by kernel_rfl
            iterate 3 exact .skip rfl (by kernel_rfl)
            iterate 4 exact .val _ rfl (by kernel_rfl) fun _ _ => by kernel_rfl
            ·exact .val _ rfl (by kernel_rfl) fun _ h => run_loadE rfl rfl ((h.row 1 rfl).cells 4 1) (by kernel_rfl)
            iterate 2 exact .val _ rfl (by kernel_rfl) fun _ _ => by kernel_rfl
            ·exact .val _ rfl (by kernel_rfl) fun _ h => run_loadE rfl rfl ((h.row 0 rfl).cells 3 1) (by kernel_rfl)
            ·exact .val _ rfl (by kernel_rfl) (fun w hM => (okBool (by kernel_rfl) h36))
            iterate 3 exact .val _ rfl (by kernel_rfl) fun _ _ => by kernel_rfl
            ·exact .val _ rfl (by kernel_rfl) fun _ h => run_loadE rfl rfl ((h.row 0 rfl).cells 4 1) (by kernel_rfl)
            ·exact .val _ rfl (by kernel_rfl) (fun w hM => (okBool (by kernel_rfl) h37))
            ·exact .val _ rfl (by kernel_rfl) fun _ _ => by kernel_rfl
            iterate 4 exact .skip rfl (by kernel_rfl)
            iterate 4 exact .val _ rfl (by kernel_rfl) fun _ _ => by kernel_rfl
            ·exact .val _ rfl (by kernel_rfl) fun _ h => run_loadE rfl rfl ((h.row 0 rfl).cells 5 1) (by kernel_rfl)
            ·exact .val _ rfl (by kernel_rfl) (fun w hM => (okBool (by kernel_rfl) h41))
            iterate 2 exact .val _ rfl (by kernel_rfl) fun _ _ => by kernel_rfl
            ·exact .val _ rfl (by kernel_rfl) fun _ h => run_loadE rfl rfl ((h.row 1 rfl).cells 6 1) (by kernel_rfl)
            ·exact .val _ rfl (by kernel_rfl) fun _ _ => by kernel_rfl
            ·exact .val _ rfl (by kernel_rfl) (fun w hM => (okBool (by kernel_rfl) (decide_eq_true h42)))
            iterate 2 exact .val _ rfl (by kernel_rfl) fun _ _ => by kernel_rfl
            have e91 : smBad1 t2 = true := by unfold smBad1; rw [h5, h6, h7, h26, h27, h36, h37, h41, (decide_eq_true h42)]; rfl
            exact ⟨rfl, ⟨(by rw [e91]; exact hK.sub ⟨rfl, rfl, rfl, rfl, rfl, rfl, rfl, rfl, trivial⟩), hM⟩⟩
           ·refine region_any (F := fun w => Mem w0 w [.row b4 98 (cP t2), .row b3 30 (cS t2)]) hK [some (.bool (ptIs t2.kind)), some (.bool (!(ptIs t2.kind))), sF, some (pA b4 0), some (.bool (ptNm t2.kind)), some (pA b3 1), some (Str t2.nm), some (.bool (isWd t2.nm)), sF, sF, sF, some (pA b4 0), some (.bool (ptNm t2.kind)), sF, sF, sU, sU, sU, sF, sF, sF, some (pA b4 1), some (.bool (ptLc t2.kind)), some (pA b3 2), some (Str t2.loc), some (.bool (isWd t2.loc)), sF, sF, sF, some (pA b4 1), some (.bool (ptLc t2.kind)), sF, sF, sU, sU, sU, sF, sF, sF, some (pA b3 4), some (.slice t2.A1 t2.es.length t2.c1), some (.int .i64 ((t2.es.length : Nat) : Int)), some (pA b4 3), some (.int .i64 (ptEx t2.kind)), sF, sF, sF, some (pA b4 4), some (.bool (ptTh t2.kind)), sF, sF, sU, sU, sU, sU, sF, sF, sF, some (pA b4 5), some (.bool (ptEl t2.kind)), sT, sT, some (pA b3 6), some (.slice t2.A3 t2.el.length t2.c3), some (.int .i64 ((t2.el.length : Nat) : Int)), sF, sF, sF] 68 (fun _ _ hb hm => hm.go hb) hM (by kernel_rfl) (by kernel_rfl) ?_ [(91, .bool false), (6, .bool (ptIs t2.kind)), (5, pA b4 0), (4, pA b3 0), (11, .bool true), (2, .bool false), (0, .slice A l.length c), (3, .int .i64 ((i : Nat) : Int))] (by kernel_rfl) fun a w hK hM => ?_
            iterate 68 refine ⟨?_, ?_⟩
            trivial
            iterate 2 exact .val _ rfl (by kernel_rfl) fun _ _ => by kernel_rfl
            ·exact .val _ rfl (by kernel_rfl) (fun w hM => (okBool (by kernel_rfl) h5))
            ·exact .val _ rfl (by kernel_rfl) fun _ _ => by kernel_rfl
            ·exact .val _ rfl (by kernel_rfl) fun _ h => run_loadE rfl rfl ((h.row 0 rfl).cells 0 1) (by kernel_rfl)
            ·exact .val _ rfl (by kernel_rfl) fun _ _ => by kernel_rfl
            ·exact .val _ rfl (by kernel_rfl) fun _ h => run_loadE rfl rfl ((h.row 1 rfl).cells 1 1) (by kernel_rfl)
            ·exact .call _ #[Str t2.nm] (.bool (isWd t2.nm)) rfl (by kernel_rfl) (fun w => (run_callE en_cantileverref03_Word rfl rfl (by kernel_rfl))) (fun w hM => ref_Wd t2.nm _ (by omega))
            ·exact .val _ rfl (by kernel_rfl) (fun w hM => (okBool (run_neB rfl rfl rfl) h6))
            iterate 3 exact .val _ rfl (by kernel_rfl) fun _ _ => by kernel_rfl
            ·exact .val _ rfl (by kernel_rfl) fun _ h => run_loadE rfl rfl ((h.row 0 rfl).cells 0 1) (by kernel_rfl)
            ·exact .val _ rfl (by kernel_rfl) (fun w hM => (okBool (by kernel_rfl) h7))
            ·exact .val _ rfl (by kernel_rfl) fun _ _ => by kernel_rfl
            iterate 3 exact .skip rfl (by kernel_rfl)
            iterate 4 exact .val _ rfl (by kernel_rfl) fun _ _ => by kernel_rfl
            ·exact .val _ rfl (by kernel_rfl) fun _ h => run_loadE rfl rfl ((h.row 0 rfl).cells 1 1) (by kernel_rfl)
            ·exact .val _ rfl (by kernel_rfl) fun _ _ => by kernel_rfl
            ·exact .val _ rfl (by kernel_rfl) fun _ h => run_loadE rfl rfl ((h.row 1 rfl).cells 2 1) (by kernel_rfl)
            ·exact .call _ #[Str t2.loc] (.bool (isWd t2.loc)) rfl (by kernel_rfl) (fun w => (run_callE en_cantileverref03_Word rfl rfl (by kernel_rfl))) (fun w hM => ref_Wd t2.loc _ (by omega))
            ·exact .val _ rfl (by kernel_rfl) (fun w hM => (okBool (run_neB rfl rfl rfl) h26))
            iterate 3 exact .val _ rfl (by kernel_rfl) fun _ _ => by kernel_rfl
            ·exact .val _ rfl (by kernel_rfl) fun _ h => run_loadE rfl rfl ((h.row 0 rfl).cells 1 1) (by kernel_rfl)
            ·exact .val _ rfl (by kernel_rfl) (fun w hM => (okBool (by kernel_rfl) h27))
            ·exact .val _ rfl (by kernel_rfl) fun _ _ => by kernel_rfl
            iterate 3 exact .skip rfl (by kernel_rfl)
            iterate 4 exact .val _ rfl (by kernel_rfl) fun _ _ => by kernel_rfl
            ·exact .val _ rfl (by kernel_rfl) fun _ h => run_loadE rfl rfl ((h.row 1 rfl).cells 4 1) (by kernel_rfl)
            iterate 2 exact .val _ rfl (by kernel_rfl) fun _ _ => by kernel_rfl
            ·exact .val _ rfl (by kernel_rfl) fun _ h => run_loadE rfl rfl ((h.row 0 rfl).cells 3 1) (by kernel_rfl)
            ·exact .val _ rfl (by kernel_rfl) (fun w hM => (okBool (by kernel_rfl) h36))
            iterate 3 exact .val _ rfl (by kernel_rfl) fun _ _ => by kernel_rfl
            ·exact .val _ rfl (by kernel_rfl) fun _ h => run_loadE rfl rfl ((h.row 0 rfl).cells 4 1) (by kernel_rfl)
            ·exact .val _ rfl (by kernel_rfl) (fun w hM => (okBool (by kernel_rfl) h37))
            ·exact .val _ rfl (by kernel_rfl) fun _ _ => by kernel_rfl
            iterate 4 exact .skip rfl (by kernel_rfl)
            iterate 4 exact .val _ rfl (by kernel_rfl) fun _ _ => by kernel_rfl
            ·exact .val _ rfl (by kernel_rfl) fun _ h => run_loadE rfl rfl ((h.row 0 rfl).cells 5 1) (by kernel_rfl)
            ·exact .val _ rfl (by kernel_rfl) (fun w hM => (okBool (by kernel_rfl) h41))
            iterate 2 exact .val _ rfl (by kernel_rfl) fun _ _ => by kernel_rfl
            ·exact .val _ rfl (by kernel_rfl) fun _ h => run_loadE rfl rfl ((h.row 1 rfl).cells 6 1) (by kernel_rfl)
            ·exact .val _ rfl (by kernel_rfl) fun _ _ => by kernel_rfl
            ·exact .val _ rfl (by kernel_rfl) (fun w hM => (okBool (by kernel_rfl) (decide_eq_false h42)))
            iterate 2 exact .val _ rfl (by kernel_rfl) fun _ _ => by kernel_rfl
            have e91 : smBad1 t2 = false := by unfold smBad1; rw [h5, h6, h7, h26, h27, h36, h37, h41, (decide_eq_false h42)]; rfl
            exact ⟨rfl, ⟨(by rw [e91]; exact hK.sub ⟨rfl, rfl, rfl, rfl, rfl, rfl, rfl, rfl, trivial⟩), hM⟩⟩
          ·refine region_any (F := fun w => Mem w0 w [.row b4 98 (cP t2), .row b3 30 (cS t2)]) hK [some (.bool (ptIs t2.kind)), some (.bool (!(ptIs t2.kind))), sF, some (pA b4 0), some (.bool (ptNm t2.kind)), some (pA b3 1), some (Str t2.nm), some (.bool (isWd t2.nm)), sF, sF, sF, some (pA b4 0), some (.bool (ptNm t2.kind)), sF, sF, sU, sU, sU, sF, sF, sF, some (pA b4 1), some (.bool (ptLc t2.kind)), some (pA b3 2), some (Str t2.loc), some (.bool (isWd t2.loc)), sF, sF, sF, some (pA b4 1), some (.bool (ptLc t2.kind)), sF, sF, sU, sU, sU, sF, sF, sF, some (pA b3 4), some (.slice t2.A1 t2.es.length t2.c1), some (.int .i64 ((t2.es.length : Nat) : Int)), some (pA b4 3), some (.int .i64 (ptEx t2.kind)), sF, sF, sF, some (pA b4 4), some (.bool (ptTh t2.kind)), sF, sF, sU, sU, sU, sU, sF, sF, sF, some (pA b4 5), some (.bool (ptEl t2.kind)), sF, sF, sU, sU, sU, sU, sF, sF] 68 (fun _ _ hb hm => hm.go hb) hM (by kernel_rfl) (by kernel_rfl) ?_ [(91, .bool false), (6, .bool (ptIs t2.kind)), (5, pA b4 0), (4, pA b3 0), (11, .bool true), (2, .bool false), (0, .slice A l.length c), (3, .int .i64 ((i : Nat) : Int))] (by kernel_rfl) fun a w hK hM => ?_
           iterate 68 refine ⟨?_, ?_⟩
           trivial
           iterate 2 exact .val _ rfl (by kernel_rfl) fun _ _ => by kernel_rfl
           ·exact .val _ rfl (by kernel_rfl) (fun w hM => (okBool (by kernel_rfl) h5))
           ·exact .val _ rfl (by kernel_rfl) fun _ _ => by kernel_rfl
           ·exact .val _ rfl (by kernel_rfl) fun _ h => run_loadE rfl rfl ((h.row 0 rfl).cells 0 1) (by kernel_rfl)
           ·exact .val _ rfl (by kernel_rfl) fun _ _ => by kernel_rfl
           ·exact .val _ rfl (by kernel_rfl) fun _ h => run_loadE rfl rfl ((h.row 1 rfl).cells 1 1) (by kernel_rfl)
           ·exact .call _ #[Str t2.nm] (.bool (isWd t2.nm)) rfl (by kernel_rfl) (fun w => (run_callE en_cantileverref03_Word rfl rfl (by kernel_rfl))) (fun w hM => ref_Wd t2.nm _ (by omega))
           ·exact .val _ rfl (by kernel_rfl) (fun w hM => (okBool (run_neB rfl rfl rfl) h6))
           iterate 3 exact .val _ rfl (by kernel_rfl) fun _ _ => by kernel_rfl
           ·exact .val _ rfl (by kernel_rfl) fun _ h => run_loadE rfl rfl ((h.row 0 rfl).cells 0 1) (by kernel_rfl)
           ·exact .val _ rfl (by kernel_rfl) (fun w hM => (okBool (by kernel_rfl) h7))
           ·exact .val _ rfl (by kernel_rfl) fun _ _ => by kernel_rfl
           iterate 3 exact .skip rfl (by kernel_rfl)
           iterate 4 exact .val _ rfl (by kernel_rfl) fun _ _ => by kernel_rfl
           ·exact .val _ rfl (by kernel_rfl) fun _ h => run_loadE rfl rfl ((h.row 0 rfl).cells 1 1) (by kernel_rfl)
           ·exact .val _ rfl (by kernel_rfl) fun _ _ => by kernel_rfl
           ·exact .val _ rfl (by kernel_rfl) fun _ h => run_loadE rfl rfl ((h.row 1 rfl).cells 2 1) (by kernel_rfl)
           ·exact .call _ #[Str t2.loc] (.bool (isWd t2.loc)) rfl (by kernel_rfl) (fun w => (run_callE en_cantileverref03_Word rfl rfl (by kernel_rfl))) (fun w hM => ref_Wd t2.loc _ (by omega))
           ·exact .val _ rfl (by kernel_rfl) (fun w hM => (okBool (run_neB rfl rfl rfl) h26))
           iterate 3 exact .val _ rfl (by kernel_rfl) fun _ _ => by kernel_rfl
           ·exact .val _ rfl (by kernel_rfl) fun _ h => run_loadE rfl rfl ((h.row 0 rfl).cells 1 1) (by kernel_rfl)
           ·exact .val _ rfl (by kernel_rfl) (fun w hM => (okBool (by kernel_rfl) h27))
           ·exact .val _ rfl (by kernel_rfl) fun _ _ => by kernel_rfl
           iterate 3 exact .skip rfl (by kernel_rfl)
           iterate 4 exact .val _ rfl (by kernel_rfl) fun _ _ => by kernel_rfl
           ·exact .val _ rfl (by kernel_rfl) fun _ h => run_loadE rfl rfl ((h.row 1 rfl).cells 4 1) (by kernel_rfl)
           iterate 2 exact .val _ rfl (by kernel_rfl) fun _ _ => by kernel_rfl
           ·exact .val _ rfl (by kernel_rfl) fun _ h => run_loadE rfl rfl ((h.row 0 rfl).cells 3 1) (by kernel_rfl)
           ·exact .val _ rfl (by kernel_rfl) (fun w hM => (okBool (by kernel_rfl) h36))
           iterate 3 exact .val _ rfl (by kernel_rfl) fun _ _ => by kernel_rfl
           ·exact .val _ rfl (by kernel_rfl) fun _ h => run_loadE rfl rfl ((h.row 0 rfl).cells 4 1) (by kernel_rfl)
           ·exact .val _ rfl (by kernel_rfl) (fun w hM => (okBool (by kernel_rfl) h37))
           ·exact .val _ rfl (by kernel_rfl) fun _ _ => by kernel_rfl
           iterate 4 exact .skip rfl (by kernel_rfl)
           iterate 4 exact .val _ rfl (by kernel_rfl) fun _ _ => by kernel_rfl
           ·exact .val _ rfl (by kernel_rfl) fun _ h => run_loadE rfl rfl ((h.row 0 rfl).cells 5 1) (by kernel_rfl)
           ·exact .val _ rfl (by kernel_rfl) (fun w hM => (okBool (by kernel_rfl) h41))
           ·exact .val _ rfl (by kernel_rfl) fun _ _ => by kernel_rfl
           iterate 4 exact .skip rfl (by kernel_rfl)
           iterate 2 exact .val _ rfl (by kernel_rfl) fun _ _ => by kernel_rfl
           have e91 : smBad1 t2 = false := by unfold smBad1; rw [h5, h6, h7, h26, h27, h36, h37, h41]; rfl
           exact ⟨rfl, ⟨(by rw [e91]; exact hK.sub ⟨rfl, rfl, rfl, rfl, rfl, rfl, rfl, rfl, trivial⟩), hM⟩⟩
  rintro a w ⟨hK, hM⟩
  rcases Bool.eq_false_or_eq_true (smBad1 t2) with h43 | h43
  ·refine wp_cond_true ((hK.get (v := (.bool (smBad1 t2))) rfl).trans (congrArg Value.bool h43)) ?_
   refine wp_seq ?_
   refine region_go (lst := [0]) (by kernel_rfl) ?_
   refine stepP hK 2 (.bool false) (by kernel_rfl) (by kernel_rfl) fun a hK => ?_
   refine region_done hK [(2, .bool false), (91, .bool (smBad1 t2)), (6, .bool (ptIs t2.kind)), (5, pA b4 0), (4, pA b3 0), (11, .bool true), (0, .slice A l.length c), (3, .int .i64 ((i : Nat) : Int))] ⟨rfl, rfl, rfl, rfl, rfl, rfl, rfl, rfl, trivial⟩ fun a hK => ?_
   refine wp_ret ?_
   exact ret_t hK rfl (u := (.bool false)) rfl (⟨by rw [← hR.2, smsOk_step ht2, sm_no1 h43]; rfl, hM.below⟩)
  ·refine wp_cond_false ((hK.get (v := (.bool (smBad1 t2))) rfl).trans (congrArg Value.bool h43)) ?_
   refine wp_skip ?_
   refine wp_seq ?_
   refine wp_seq ?_
   refine wp_cut (fun a w => Knows a 140 [(125, .bool (smBad2 t2 || !(smsOk t2.th) || !(smsOk t2.el))), (91, .bool (smBad1 t2)), (6, .bool (ptIs t2.kind)), (5, pA b4 0), (4, pA b3 0), (11, .bool true), (2, .bool false), (0, .slice A l.length c), (3, .int .i64 ((i : Nat) : Int))] ∧ Mem w0 w [.row b4 98 (cP t2), .row b3 30 (cS t2)]) ?_ ?_
   ·refine region_go (lst := [0, 1, 2, 3, 4, 5, 6, 7, 8, 9, 10, 11, 12, 13, 14, 15, 16, 17, 18, 19, 20, 21, 22, 23, 24, 25, 26, 27, 28, 29, 30, 31, 32, 33]) (by kernel_rfl) ?_
    refine stepP hK 92 (pA b4 2) (by kernel_rfl) (by kernel_rfl) fun a hK => ?_
    refine stepLoad hK 93 (.bool (ptOr t2.kind)) (by kernel_rfl) rfl rfl ((hM.row 0 rfl).cells 2 1) (by kernel_rfl) fun a hK => ?_
    rcases Bool.eq_false_or_eq_true (ptOr t2.kind) with h44 | h44
    ·refine stepP hK 94 (.bool true) (by kernel_rfl) (okBool (b := (ptOr t2.kind)) (by kernel_rfl) h44) fun a hK => ?_
     refine stepP hK 95 (pA b3 3) (by kernel_rfl) (by kernel_rfl) fun a hK => ?_
     refine stepLoad hK 96 (.int .i64 t2.ord) (by kernel_rfl) rfl rfl ((hM.row 1 rfl).cells 3 1) (by kernel_rfl) fun a hK => ?_
     by_cases h45 : (t2.ord : Int) < 1
     ·refine stepP hK 97 (.bool true) (by kernel_rfl) (okBool (b := (decide ((t2.ord : Int) < 1))) (by kernel_rfl) (decide_eq_true h45)) fun a hK => ?_
      refine stepM hK 98 97 (by kernel_rfl) (.inl rfl) rfl fun a hK => ?_
      refine stepN hK 99 (by kernel_rfl) fun a hK => ?_
      refine stepN hK 100 (by kernel_rfl) fun a hK => ?_
      refine stepN hK 101 (by kernel_rfl) fun a hK => ?_
      refine stepP hK 102 (.bool true) (by kernel_rfl) (by kernel_rfl) fun a hK => ?_
      refine stepP hK 103 (.bool true) (by kernel_rfl) (by kernel_rfl) fun a hK => ?_
      refine stepM hK 104 103 (by kernel_rfl) (.inl rfl) rfl fun a hK => ?_
      refine stepN hK 105 (by kernel_rfl) fun a hK => ?_
      refine stepN hK 106 (by kernel_rfl) fun a hK => ?_
      refine stepN hK 107 (by kernel_rfl) fun a hK => ?_
      refine stepN hK 108 (by kernel_rfl) fun a hK => ?_
      refine stepN hK 109 (by kernel_rfl) fun a hK => ?_
      refine stepN hK 110 (by kernel_rfl) fun a hK => ?_
      refine stepN hK 111 (by kernel_rfl) fun a hK => ?_
      refine stepN hK 112 (by kernel_rfl) fun a hK => ?_
      refine stepP hK 113 (.bool true) (by kernel_rfl) (by kernel_rfl) fun a hK => ?_
      refine stepM hK 114 113 (by kernel_rfl) (.inl rfl) rfl fun a hK => ?_
      refine stepN hK 115 (by kernel_rfl) fun a hK => ?_
      refine stepN hK 116 (by kernel_rfl) fun a hK => ?_
      refine stepN hK 117 (by kernel_rfl) fun a hK => ?_
      refine stepN hK 118 (by kernel_rfl) fun a hK => ?_
      refine stepP hK 119 (.bool true) (by kernel_rfl) (by kernel_rfl) fun a hK => ?_
      refine stepM hK 120 119 (by kernel_rfl) (.inl rfl) rfl fun a hK => ?_
      refine stepN hK 121 (by kernel_rfl) fun a hK => ?_
      refine stepN hK 122 (by kernel_rfl) fun a hK => ?_
      refine stepN hK 123 (by kernel_rfl) fun a hK => ?_
      refine stepN hK 124 (by kernel_rfl) fun a hK => ?_
      refine stepP hK 125 (.bool true) (by kernel_rfl) (by kernel_rfl) fun a hK => ?_
      refine region_done hK [(125, .bool true), (91, .bool (smBad1 t2)), (6, .bool (ptIs t2.kind)), (5, pA b4 0), (4, pA b3 0), (11, .bool true), (2, .bool false), (0, .slice A l.length c), (3, .int .i64 ((i : Nat) : Int))] ⟨rfl, rfl, rfl, rfl, rfl, rfl, rfl, rfl, rfl, trivial⟩ fun a hK => ?_
      have e125 : (smBad2 t2 || !(smsOk t2.th) || !(smsOk t2.el)) = true := by unfold smBad2; rw [h44, (decide_eq_true h45)]; rfl
      exact ⟨rfl, ⟨(by rw [e125]; exact hK.sub ⟨rfl, rfl, rfl, rfl, rfl, rfl, rfl, rfl, rfl, trivial⟩), hM⟩⟩
     ·refine stepP hK 97 (.bool false) (by kernel_rfl) (okBool (b := (decide ((t2.ord : Int) < 1))) (by kernel_rfl) (decide_eq_false h45)) fun a hK => ?_
      refine stepM hK 98 97 (by kernel_rfl) (.inl rfl) rfl fun a hK => ?_
      refine stepP hK 99 (pA b3 3) (by kernel_rfl) (by kernel_rfl) fun a hK => ?_
      refine stepLoad hK 100 (.int .i64 t2.ord) (by kernel_rfl) rfl rfl ((hM.row 1 rfl).cells 3 1) (by kernel_rfl) fun a hK => ?_
      by_cases h46 : (6 : Int) < t2.ord
      ·refine stepP hK 101 (.bool true) (by kernel_rfl) (okBool (b := (decide ((6 : Int) < t2.ord))) (by kernel_rfl) (decide_eq_true h46)) fun a hK => ?_
       refine stepP hK 102 (.bool true) (by kernel_rfl) (by kernel_rfl) fun a hK => ?_
       refine stepP hK 103 (.bool true) (by kernel_rfl) (by kernel_rfl) fun a hK => ?_
       refine stepM hK 104 103 (by kernel_rfl) (.inl rfl) rfl fun a hK => ?_
       refine stepN hK 105 (by kernel_rfl) fun a hK => ?_
       refine stepN hK 106 (by kernel_rfl) fun a hK => ?_
       refine stepN hK 107 (by kernel_rfl) fun a hK => ?_
       refine stepN hK 108 (by kernel_rfl) fun a hK => ?_
       refine stepN hK 109 (by kernel_rfl) fun a hK => ?_
       refine stepN hK 110 (by kernel_rfl) fun a hK => ?_
       refine stepN hK 111 (by kernel_rfl) fun a hK => ?_
       refine stepN hK 112 (by kernel_rfl) fun a hK => ?_
       refine stepP hK 113 (.bool true) (by kernel_rfl) (by kernel_rfl) fun a hK => ?_
       refine stepM hK 114 113 (by kernel_rfl) (.inl rfl) rfl fun a hK => ?_
       refine stepN hK 115 (by kernel_rfl) fun a hK => ?_
       refine stepN hK 116 (by kernel_rfl) fun a hK => ?_
       refine stepN hK 117 (by kernel_rfl) fun a hK => ?_
       refine stepN hK 118 (by kernel_rfl) fun a hK => ?_
       refine stepP hK 119 (.bool true) (by kernel_rfl) (by kernel_rfl) fun a hK => ?_
       refine stepM hK 120 119 (by kernel_rfl) (.inl rfl) rfl fun a hK => ?_
       refine stepN hK 121 (by kernel_rfl) fun a hK => ?_
       refine stepN hK 122 (by kernel_rfl) fun a hK => ?_
       refine stepN hK 123 (by kernel_rfl) fun a hK => ?_
       refine stepN hK 124 (by kernel_rfl) fun a hK => ?_
       refine stepP hK 125 (.bool true) (by kernel_rfl) (by kernel_rfl) fun a hK => ?_
       refine region_done hK [(125, .bool true), (91, .bool (smBad1 t2)), (6, .bool (ptIs t2.kind)), (5, pA b4 0), (4, pA b3 0), (11, .bool true), (2, .bool false), (0, .slice A l.length c), (3, .int .i64 ((i : Nat) : Int))] ⟨rfl, rfl, rfl, rfl, rfl, rfl, rfl, rfl, rfl, trivial⟩ fun a hK => ?_
       have e125 : (smBad2 t2 || !(smsOk t2.th) || !(smsOk t2.el)) = true := by unfold smBad2; rw [h44, (decide_eq_false h45), (decide_eq_true h46)]; rfl
       exact ⟨rfl, ⟨(by rw [e125]; exact hK.sub ⟨rfl, rfl, rfl, rfl, rfl, rfl, rfl, rfl, rfl, trivial⟩), hM⟩⟩
      ·refine stepP hK 101 (.bool false) (by kernel_rfl) (okBool (b := (decide ((6 : Int) < t2.ord))) (by kernel_rfl) (decide_eq_false h46)) fun a hK => ?_
       refine stepP hK 102 (.bool false) (by kernel_rfl) (by kernel_rfl) fun a hK => ?_
       refine stepP hK 103 (.bool false) (by kernel_rfl) (by kernel_rfl) fun a hK => ?_
       refine stepM hK 104 103 (by kernel_rfl) (.inl rfl) rfl fun a hK => ?_
       refine stepP hK 105 (pA b4 2) (by kernel_rfl) (by kernel_rfl) fun a hK => ?_
       refine stepLoad hK 106 (.bool (ptOr t2.kind)) (by kernel_rfl) rfl rfl ((hM.row 0 rfl).cells 2 1) (by kernel_rfl) fun a hK => ?_
       refine stepP hK 107 (.bool false) (by kernel_rfl) (okBool (b := (!(ptOr t2.kind))) (by kernel_rfl) ((congrArg Bool.not h44).trans rfl)) fun a hK => ?_
       refine stepM hK 108 107 (by kernel_rfl) (.inl rfl) rfl fun a hK => ?_
       refine stepN hK 109 (by kernel_rfl) fun a hK => ?_
       refine stepN hK 110 (by kernel_rfl) fun a hK => ?_
       refine stepN hK 111 (by kernel_rfl) fun a hK => ?_
       refine stepP hK 112 (.bool false) (by kernel_rfl) (by kernel_rfl) fun a hK => ?_
       refine stepP hK 113 (.bool false) (by kernel_rfl) (by kernel_rfl) fun a hK => ?_
       refine stepM hK 114 113 (by kernel_rfl) (.inl rfl) rfl fun a hK => ?_
       refine stepP hK 115 (pA b3 5) (by kernel_rfl) (by kernel_rfl) fun a hK => ?_
       refine stepLoad hK 116 (.slice t2.A2 t2.th.length t2.c2) (by kernel_rfl) rfl rfl ((hM.row 1 rfl).cells 5 1) (by kernel_rfl) fun a hK => ?_
       rcases Bool.eq_false_or_eq_true (smsOk t2.th) with h47 | h47
       ·refine stepRet hK hM 117 #[.slice t2.A2 t2.th.length t2.c2] (.bool true) (by kernel_rfl) (run_callE en_cantileverref03_rights rfl rfl (by kernel_rfl)) (ret_eq ((ih t2 (List.mem_of_getElem? ht2)).1 _ _ _ (et2.thn.on hM.below) (by omega) (sm_sh (smsSh_mem hs (List.mem_of_getElem? ht2))).2.2.2.1) (congrArg Value.bool h47)) fun a w hK hM => ?_
        refine stepP hK 118 (.bool false) (by kernel_rfl) (by kernel_rfl) fun a hK => ?_
        refine stepP hK 119 (.bool false) (by kernel_rfl) (by kernel_rfl) fun a hK => ?_
        refine stepM hK 120 119 (by kernel_rfl) (.inl rfl) rfl fun a hK => ?_
        refine stepP hK 121 (pA b3 6) (by kernel_rfl) (by kernel_rfl) fun a hK => ?_
        refine stepLoad hK 122 (.slice t2.A3 t2.el.length t2.c3) (by kernel_rfl) rfl rfl ((hM.row 1 rfl).cells 6 1) (by kernel_rfl) fun a hK => ?_
        rcases Bool.eq_false_or_eq_true (smsOk t2.el) with h48 | h48
        ·refine stepRet hK hM 123 #[.slice t2.A3 t2.el.length t2.c3] (.bool true) (by kernel_rfl) (run_callE en_cantileverref03_rights rfl rfl (by kernel_rfl)) (ret_eq ((ih t2 (List.mem_of_getElem? ht2)).2 _ _ _ (et2.els.on hM.below) (by omega) (sm_sh (smsSh_mem hs (List.mem_of_getElem? ht2))).2.2.2.2) (congrArg Value.bool h48)) fun a w hK hM => ?_
         refine stepP hK 124 (.bool false) (by kernel_rfl) (by kernel_rfl) fun a hK => ?_
         refine stepP hK 125 (.bool false) (by kernel_rfl) (by kernel_rfl) fun a hK => ?_
         refine region_done hK [(125, .bool false), (91, .bool (smBad1 t2)), (6, .bool (ptIs t2.kind)), (5, pA b4 0), (4, pA b3 0), (11, .bool true), (2, .bool false), (0, .slice A l.length c), (3, .int .i64 ((i : Nat) : Int))] ⟨rfl, rfl, rfl, rfl, rfl, rfl, rfl, rfl, rfl, trivial⟩ fun a hK => ?_
         have e125 : (smBad2 t2 || !(smsOk t2.th) || !(smsOk t2.el)) = false := by unfold smBad2; rw [h44, (decide_eq_false h45), (decide_eq_false h46), h47, h48]; rfl
         exact ⟨rfl, ⟨(by rw [e125]; exact hK.sub ⟨rfl, rfl, rfl, rfl, rfl, rfl, rfl, rfl, rfl, trivial⟩), hM⟩⟩
        ·refine stepRet hK hM 123 #[.slice t2.A3 t2.el.length t2.c3] (.bool false) (by kernel_rfl) (run_callE en_cantileverref03_rights rfl rfl (by kernel_rfl)) (ret_eq ((ih t2 (List.mem_of_getElem? ht2)).2 _ _ _ (et2.els.on hM.below) (by omega) (sm_sh (smsSh_mem hs (List.mem_of_getElem? ht2))).2.2.2.2) (congrArg Value.bool h48)) fun a w hK hM => ?_
         refine stepP hK 124 (.bool true) (by kernel_rfl) (by kernel_rfl) fun a hK => ?_
         refine stepP hK 125 (.bool true) (by kernel_rfl) (by kernel_rfl) fun a hK => ?_
         refine region_done hK [(125, .bool true), (91, .bool (smBad1 t2)), (6, .bool (ptIs t2.kind)), (5, pA b4 0), (4, pA b3 0), (11, .bool true), (2, .bool false), (0, .slice A l.length c), (3, .int .i64 ((i : Nat) : Int))] ⟨rfl, rfl, rfl, rfl, rfl, rfl, rfl, rfl, rfl, trivial⟩ fun a hK => ?_
         have e125 : (smBad2 t2 || !(smsOk t2.th) || !(smsOk t2.el)) = true := by unfold smBad2; rw [h44, (decide_eq_false h45), (decide_eq_false h46), h47, h48]; rfl
         exact ⟨rfl, ⟨(by rw [e125]; exact hK.sub ⟨rfl, rfl, rfl, rfl, rfl, rfl, rfl, rfl, rfl, trivial⟩), hM⟩⟩
       ·refine stepRet hK hM 117 #[.slice t2.A2 t2.th.length t2.c2] (.bool false) (by kernel_rfl) (run_callE en_cantileverref03_rights rfl rfl (by kernel_rfl)) (ret_eq ((ih t2 (List.mem_of_getElem? ht2)).1 _ _ _ (et2.thn.on hM.below) (by omega) (sm_sh (smsSh_mem hs (List.mem_of_getElem? ht2))).2.2.2.1) (congrArg Value.bool h47)) fun a w hK hM => ?_
        refine stepP hK 118 (.bool true) (by kernel_rfl) (by kernel_rfl) fun a hK => ?_
        refine stepP hK 119 (.bool true) (by kernel_rfl) (by kernel_rfl) fun a hK => ?_
        refine stepM hK 120 119 (by kernel_rfl) (.inl rfl) rfl fun a hK => ?_
        refine stepN hK 121 (by kernel_rfl) fun a hK => ?_
        refine stepN hK 122 (by kernel_rfl) fun a hK => ?_
        refine stepN hK 123 (by kernel_rfl) fun a hK => ?_
        refine stepN hK 124 (by kernel_rfl) fun a hK => ?_
        refine stepP hK 125 (.bool true) (by kernel_rfl) (by kernel_rfl) fun a hK => ?_
        refine region_done hK [(125, .bool true), (91, .bool (smBad1 t2)), (6, .bool (ptIs t2.kind)), (5, pA b4 0), (4, pA b3 0), (11, .bool true), (2, .bool false), (0, .slice A l.length c), (3, .int .i64 ((i : Nat) : Int))] ⟨rfl, rfl, rfl, rfl, rfl, rfl, rfl, rfl, rfl, trivial⟩ fun a hK => ?_
        have e125 : (smBad2 t2 || !(smsOk t2.th) || !(smsOk t2.el)) = true := by unfold smBad2; rw [h44, (decide_eq_false h45), (decide_eq_false h46), h47]; rfl
        exact ⟨rfl, ⟨(by rw [e125]; exact hK.sub ⟨rfl, rfl, rfl, rfl, rfl, rfl, rfl, rfl, rfl, trivial⟩), hM⟩⟩
    ·refine stepP hK 94 (.bool false) (by kernel_rfl) (okBool (b := (ptOr t2.kind)) (by kernel_rfl) h44) fun a hK => ?_
     refine stepN hK 95 (by kernel_rfl) fun a hK => ?_
     refine stepN hK 96 (by kernel_rfl) fun a hK => ?_
     refine stepN hK 97 (by kernel_rfl) fun a hK => ?_
     refine stepN hK 98 (by kernel_rfl) fun a hK => ?_
     refine stepN hK 99 (by kernel_rfl) fun a hK => ?_
     refine stepN hK 100 (by kernel_rfl) fun a hK => ?_
     refine stepN hK 101 (by kernel_rfl) fun a hK => ?_
     refine stepN hK 102 (by kernel_rfl) fun a hK => ?_
     refine stepP hK 103 (.bool false) (by kernel_rfl) (by kernel_rfl) fun a hK => ?_
     refine stepM hK 104 103 (by kernel_rfl) (.inl rfl) rfl fun a hK => ?_
     refine stepP hK 105 (pA b4 2) (by kernel_rfl) (by kernel_rfl) fun a hK => ?_
     refine stepLoad hK 106 (.bool (ptOr t2.kind)) (by kernel_rfl) rfl rfl ((hM.row 0 rfl).cells 2 1) (by kernel_rfl) fun a hK => ?_
     refine stepP hK 107 (.bool true) (by kernel_rfl) (okBool (b := (!(ptOr t2.kind))) (by kernel_rfl) ((congrArg Bool.not h44).trans rfl)) fun a hK => ?_
     refine stepM hK 108 107 (by kernel_rfl) (.inl rfl) rfl fun a hK => ?_
     refine stepP hK 109 (pA b3 3) (by kernel_rfl) (by kernel_rfl) fun a hK => ?_
     refine stepLoad hK 110 (.int .i64 t2.ord) (by kernel_rfl) rfl rfl ((hM.row 1 rfl).cells 3 1) (by kernel_rfl) fun a hK => ?_
     rcases Bool.eq_false_or_eq_true (!(decide ((t2.ord : Int) = 0))) with h49 | h49
     ·refine stepP hK 111 (.bool true) (by kernel_rfl) (okBool (b := (!(decide ((t2.ord : Int) = 0)))) (by kernel_rfl) h49) fun a hK => ?_
      refine stepP hK 112 (.bool true) (by kernel_rfl) (by kernel_rfl) fun a hK => ?_
      refine stepP hK 113 (.bool true) (by kernel_rfl) (by kernel_rfl) fun a hK => ?_
      refine stepM hK 114 113 (by kernel_rfl) (.inl rfl) rfl fun a hK => ?_
      refine stepN hK 115 (by kernel_rfl) fun a hK => ?_
      refine stepN hK 116 (by kernel_rfl) fun a hK => ?_
      refine stepN hK 117 (by kernel_rfl) fun a hK => ?_
      refine stepN hK 118 (by kernel_rfl) fun a hK => ?_
      refine stepP hK 119 (.bool true) (by kernel_rfl) (by kernel_rfl) fun a hK => ?_
      refine stepM hK 120 119 (by kernel_rfl) (.inl rfl) rfl fun a hK => ?_
      refine stepN hK 121 (by kernel_rfl) fun a hK => ?_
      refine stepN hK 122 (by kernel_rfl) fun a hK => ?_
      refine stepN hK 123 (by kernel_rfl) fun a hK => ?_
      refine stepN hK 124 (by kernel_rfl) fun a hK => ?_
      refine stepP hK 125 (.bool true) (by kernel_rfl) (by kernel_rfl) fun a hK => ?_
      refine region_done hK [(125, .bool true), (91, .bool (smBad1 t2)), (6, .bool (ptIs t2.kind)), (5, pA b4 0), (4, pA b3 0), (11, .bool true), (2, .bool false), (0, .slice A l.length c), (3, .int .i64 ((i : Nat) : Int))] ⟨rfl, rfl, rfl, rfl, rfl, rfl, rfl, rfl, rfl, trivial⟩ fun a hK => ?_
      have e125 : (smBad2 t2 || !(smsOk t2.th) || !(smsOk t2.el)) = true := by unfold smBad2; rw [h44, h49]; rfl
      exact ⟨rfl, ⟨(by rw [e125]; exact hK.sub ⟨rfl, rfl, rfl, rfl, rfl, rfl, rfl, rfl, rfl, trivial⟩), hM⟩⟩
     ·refine stepP hK 111 (.bool false) (by kernel_rfl) (okBool (b := (!(decide ((t2.ord : Int) = 0)))) (by kernel_rfl) h49) fun a hK => ?_
      refine stepP hK 112 (.bool false) (by kernel_rfl) (by kernel_rfl) fun a hK => ?_
      refine stepP hK 113 (.bool false) (by kernel_rfl) (by kernel_rfl) fun a hK => ?_
      refine stepM hK 114 113 (by kernel_rfl) (.inl rfl) rfl fun a hK => ?_
      refine stepP hK 115 (pA b3 5) (by kernel_rfl) (by kernel_rfl) fun a hK => ?_
      refine stepLoad hK 116 (.slice t2.A2 t2.th.length t2.c2) (by kernel_rfl) rfl rfl ((hM.row 1 rfl).cells 5 1) (by kernel_rfl) fun a hK => ?_
      rcases Bool.eq_false_or_eq_true (smsOk t2.th) with h50 | h50
      ·refine stepRet hK hM 117 #[.slice t2.A2 t2.th.length t2.c2] (.bool true) (by kernel_rfl) (run_callE en_cantileverref03_rights rfl rfl (by kernel_rfl)) (ret_eq ((ih t2 (List.mem_of_getElem? ht2)).1 _ _ _ (et2.thn.on hM.below) (by omega) (sm_sh (smsSh_mem hs (List.mem_of_getElem? ht2))).2.2.2.1) (congrArg Value.bool h50)) fun a w hK hM => ?_
       refine stepP hK 118 (.bool false) (by kernel_rfl) (by kernel_rfl) fun a hK => ?_
       refine stepP hK 119 (.bool false) (by kernel_rfl) (by kernel_rfl) fun a hK => ?_
       refine stepM hK 120 119 (by kernel_rfl) (.inl rfl) rfl fun a hK => ?_
       refine stepP hK 121 (pA b3 6) (by kernel_rfl) (by kernel_rfl) fun a hK => ?_
       refine stepLoad hK 122 (.slice t2.A3 t2.el.length t2.c3) (by kernel_rfl) rfl rfl ((hM.row 1 rfl).cells 6 1) (by kernel_rfl) fun a hK => ?_
       rcases Bool.eq_false_or_eq_true (smsOk t2.el) with h51 | h51
       ·refine stepRet hK hM 123 #[.slice t2.A3 t2.el.length t2.c3] (.bool true) (by kernel_rfl) (run_callE en_cantileverref03_rights rfl rfl (by kernel_rfl)) (ret_eq ((ih t2 (List.mem_of_getElem? ht2)).2 _ _ _ (et2.els.on hM.below) (by omega) (sm_sh (smsSh_mem hs (List.mem_of_getElem? ht2))).2.2.2.2) (congrArg Value.bool h51)) fun a w hK hM => ?_
        refine stepP hK 124 (.bool false) (by kernel_rfl) (by kernel_rfl) fun a hK => ?_
        refine stepP hK 125 (.bool false) (by kernel_rfl) (by kernel_rfl) fun a hK => ?_
        refine region_done hK [(125, .bool false), (91, .bool (smBad1 t2)), (6, .bool (ptIs t2.kind)), (5, pA b4 0), (4, pA b3 0), (11, .bool true), (2, .bool false), (0, .slice A l.length c), (3, .int .i64 ((i : Nat) : Int))] ⟨rfl, rfl, rfl, rfl, rfl, rfl, rfl, rfl, rfl, trivial⟩ fun a hK => ?_
        have e125 : (smBad2 t2 || !(smsOk t2.th) || !(smsOk t2.el)) = false := by unfold smBad2; rw [h44, h49, h50, h51]; rfl
        exact ⟨rfl, ⟨(by rw [e125]; exact hK.sub ⟨rfl, rfl, rfl, rfl, rfl, rfl, rfl, rfl, rfl, trivial⟩), hM⟩⟩
       ·refine stepRet hK hM 123 #[.slice t2.A3 t2.el.length t2.c3] (.bool false) (by kernel_rfl) (run_callE en_cantileverref03_rights rfl rfl (by kernel_rfl)) (ret_eq ((ih t2 (List.mem_of_getElem? ht2)).2 _ _ _ (et2.els.on hM.below) (by omega) (sm_sh (smsSh_mem hs (List.mem_of_getElem? ht2))).2.2.2.2) (congrArg Value.bool h51)) fun a w hK hM => ?_
        refine stepP hK 124 (.bool true) (by kernel_rfl) (by kernel_rfl) fun a hK => ?_
        refine stepP hK 125 (.bool true) (by kernel_rfl) (by kernel_rfl) fun a hK => ?_
        refine region_done hK [(125, .bool true), (91, .bool (smBad1 t2)), (6, .bool (ptIs t2.kind)), (5, pA b4 0), (4, pA b3 0), (11, .bool true), (2, .bool false), (0, .slice A l.length c), (3, .int .i64 ((i : Nat) : Int))] ⟨rfl, rfl, rfl, rfl, rfl, rfl, rfl, rfl, rfl, trivial⟩ fun a hK => ?_
        have e125 : (smBad2 t2 || !(smsOk t2.th) || !(smsOk t2.el)) = true := by unfold smBad2; rw [h44, h49, h50, h51]; rfl
        exact ⟨rfl, ⟨(by rw [e125]; exact hK.sub ⟨rfl, rfl, rfl, rfl, rfl, rfl, rfl, rfl, rfl, trivial⟩), hM⟩⟩
      ·refine stepRet hK hM 117 #[.slice t2.A2 t2.th.length t2.c2] (.bool false) (by kernel_rfl) (run_callE en_cantileverref03_rights rfl rfl (by kernel_rfl)) (ret_eq ((ih t2 (List.mem_of_getElem? ht2)).1 _ _ _ (et2.thn.on hM.below) (by omega) (sm_sh (smsSh_mem hs (List.mem_of_getElem? ht2))).2.2.2.1) (congrArg Value.bool h50)) fun a w hK hM => ?_
       refine stepP hK 118 (.bool true) (by kernel_rfl) (by kernel_rfl) fun a hK => ?_
       refine stepP hK 119 (.bool true) (by kernel_rfl) (by kernel_rfl) fun a hK => ?_
       refine stepM hK 120 119 (by kernel_rfl) (.inl rfl) rfl fun a hK => ?_
       refine stepN hK 121 (by kernel_rfl) fun a hK => ?_
       refine stepN hK 122 (by kernel_rfl) fun a hK => ?_
       refine stepN hK 123 (by kernel_rfl) fun a hK => ?_
       refine stepN hK 124 (by kernel_rfl) fun a hK => ?_
       refine stepP hK 125 (.bool true) (by kernel_rfl) (by kernel_rfl) fun a hK => ?_
       refine region_done hK [(125, .bool true), (91, .bool (smBad1 t2)), (6, .bool (ptIs t2.kind)), (5, pA b4 0), (4, pA b3 0), (11, .bool true), (2, .bool false), (0, .slice A l.length c), (3, .int .i64 ((i : Nat) : Int))] ⟨rfl, rfl, rfl, rfl, rfl, rfl, rfl, rfl, rfl, trivial⟩ fun a hK => ?_
       have e125 : (smBad2 t2 || !(smsOk t2.th) || !(smsOk t2.el)) = true := by unfold smBad2; rw [h44, h49, h50]; rfl
       exact ⟨rfl, ⟨(by rw [e125]; exact hK.sub ⟨rfl, rfl, rfl, rfl, rfl, rfl, rfl, rfl, rfl, trivial⟩), hM⟩⟩
   rintro a w ⟨hK, hM⟩
   rcases Bool.eq_false_or_eq_true (smBad2 t2 || !(smsOk t2.th) || !(smsOk t2.el)) with h52 | h52
   ·refine wp_cond_true ((hK.get (v := (.bool (smBad2 t2 || !(smsOk t2.th) || !(smsOk t2.el)))) rfl).trans (congrArg Value.bool h52)) ?_
    refine wp_seq ?_
    refine region_go (lst := [0]) (by kernel_rfl) ?_
    refine stepP hK 2 (.bool false) (by kernel_rfl) (by kernel_rfl) fun a hK => ?_
    refine region_done hK [(2, .bool false), (125, .bool (smBad2 t2 || !(smsOk t2.th) || !(smsOk t2.el))), (91, .bool (smBad1 t2)), (6, .bool (ptIs t2.kind)), (5, pA b4 0), (4, pA b3 0), (11, .bool true), (0, .slice A l.length c), (3, .int .i64 ((i : Nat) : Int))] ⟨rfl, rfl, rfl, rfl, rfl, rfl, rfl, rfl, rfl, trivial⟩ fun a hK => ?_
    refine wp_ret ?_
    exact ret_t hK rfl (u := (.bool false)) rfl (⟨by rw [← hR.2, smsOk_step ht2, sm_no2 h43 h52]; rfl, hM.below⟩)
   ·refine wp_cond_false ((hK.get (v := (.bool (smBad2 t2 || !(smsOk t2.th) || !(smsOk t2.el)))) rfl).trans (congrArg Value.bool h52)) ?_
    refine wp_skip ?_
    refine wp_seq ?_
    refine region_go (lst := [0]) (by kernel_rfl) ?_
    refine stepP hK 7 (.int .i64 0) (by kernel_rfl) (by kernel_rfl) fun a hK => ?_
    refine region_done hK [(7, .int .i64 0), (125, .bool (smBad2 t2 || !(smsOk t2.th) || !(smsOk t2.el))), (91, .bool (smBad1 t2)), (6, .bool (ptIs t2.kind)), (5, pA b4 0), (4, pA b3 0), (11, .bool true), (2, .bool false), (0, .slice A l.length c), (3, .int .i64 ((i : Nat) : Int))] ⟨rfl, rfl, rfl, rfl, rfl, rfl, rfl, rfl, rfl, rfl, trivial⟩ fun a hK => ?_
    refine wp_block ?_
    have hRo := hR
    have hb1 := h43
    have hb2 := h52
    refine wp_loopX (fun x : Nat => [(125, .bool (smBad2 t2 || !(smsOk t2.th) || !(smsOk t2.el))), (91, .bool (smBad1 t2)), (6, .bool (ptIs t2.kind)), (5, pA b4 0), (4, pA b3 0), (11, .bool true), (2, .bool false), (0, .slice A l.length c), (3, .int .i64 ((i : Nat) : Int)), (7, .int .i64 ((x : Nat) : Int))]) (fun x : Nat => [.row b4 98 (cP t2), .row b3 30 (cS t2)]) (fun x : Nat => x ≤ t2.es.length ∧ exsOk (t2.es.drop x) = exsOk t2.es) (fun x : Nat => t2.es.length - x) 0 (hK.sub ⟨rfl, rfl, rfl, rfl, rfl, rfl, rfl, rfl, rfl, rfl, trivial⟩) hM ⟨Nat.zero_le _, rfl⟩ ?_
    rintro k a w hK hM hR
    replace hK : Knows a 140 [(125, .bool (smBad2 t2 || !(smsOk t2.th) || !(smsOk t2.el))), (91, .bool (smBad1 t2)), (6, .bool (ptIs t2.kind)), (5, pA b4 0), (4, pA b3 0), (11, .bool true), (2, .bool false), (0, .slice A l.length c), (3, .int .i64 ((i : Nat) : Int)), (7, .int .i64 ((k : Nat) : Int))] := hK
    replace hM : Mem w0 w [.row b4 98 (cP t2), .row b3 30 (cS t2)] := hM
    replace hR : k ≤ t2.es.length ∧ exsOk (t2.es.drop k) = exsOk t2.es := hR
    refine wp_seq ?_
    refine wp_seq ?_
    refine region_go (lst := [0, 1, 2, 3, 4]) (by kernel_rfl) ?_
    refine stepM hK 126 7 (by kernel_rfl) (.inl rfl) rfl fun a hK => ?_
    refine stepP hK 127 (pA b3 4) (by kernel_rfl) (by kernel_rfl) fun a hK => ?_
    refine stepLoad hK 128 (.slice t2.A1 t2.es.length t2.c1) (by kernel_rfl) rfl rfl ((hM.row 1 rfl).cells 4 1) (by kernel_rfl) fun a hK => ?_
    refine stepP hK 129 (.int .i64 ((t2.es.length : Nat) : Int)) (by kernel_rfl) (by kernel_rfl) fun a hK => ?_
    by_cases h53 : (((k : Nat) : Int) : Int) < ((t2.es.length : Nat) : Int)
    ·refine stepP hK 130 (.bool true) (by kernel_rfl) (okBool (b := (decide ((((k : Nat) : Int) : Int) < ((t2.es.length : Nat) : Int)))) (by kernel_rfl) (decide_eq_true h53)) fun a hK => ?_
     refine region_done hK [(130, .bool true), (125, .bool (smBad2 t2 || !(smsOk t2.th) || !(smsOk t2.el))), (91, .bool (smBad1 t2)), (6, .bool (ptIs t2.kind)), (5, pA b4 0), (4, pA b3 0), (11, .bool true), (2, .bool false), (0, .slice A l.length c), (3, .int .i64 ((i : Nat) : Int)), (7, .int .i64 ((k : Nat) : Int))] ⟨rfl, rfl, rfl, rfl, rfl, rfl, rfl, rfl, rfl, rfl, rfl, trivial⟩ fun a hK => ?_
     refine wp_cond_true (hK.get rfl) ?_
     refine wp_skip ?_
     refine wp_seq ?_
     refine wp_block ?_
     refine wp_seq ?_
     refine region_go (lst := [0, 1, 2, 3, 4, 5, 6]) (by kernel_rfl) ?_
     refine stepP hK 133 (pA b3 4) (by kernel_rfl) (by kernel_rfl) fun a hK => ?_
     refine stepLoad hK 134 (.slice t2.A1 t2.es.length t2.c1) (by kernel_rfl) rfl rfl ((hM.row 1 rfl).cells 4 1) (by kernel_rfl) fun a hK => ?_
     refine stepM hK 135 7 (by kernel_rfl) (.inl rfl) rfl fun a hK => ?_
     obtain ⟨t54, ht54⟩ : ∃ t, t2.es[(k : Nat)]? = some t := ⟨_, List.getElem?_eq_getElem (by omega)⟩
     obtain ⟨⟨at54, At54, ct54⟩, et54⟩ := et2.exprs _ _ ht54; have nt54 := et54.len
     refine stepP hK 136 (.pointer (some (at54.add (k * 4)))) (by kernel_rfl) (run_ixA (k := k) (s := 4) rfl rfl At54 rfl Tryd.underlying27 (by kernel_rfl) (by omega)) fun a hK => ?_
     refine stepLoad hK 137 (.agg #[.int .i64 t54.op, .int .i64 t54.num, Str t54.nm, .slice t54.A t54.ks.length t54.c]) (by kernel_rfl) rfl rfl ((ct54.on hM.below)) (by kernel_rfl) fun a hK => ?_
     rcases Bool.eq_false_or_eq_true t54.ok with h55 | h55
     ·refine stepRet hK hM 138 #[.agg #[.int .i64 t54.op, .int .i64 t54.num, Str t54.nm, .slice t54.A t54.ks.length t54.c]] (.bool true) (by kernel_rfl) (run_callE en_cantileverref03_right rfl rfl (by kernel_rfl)) (ret_eq (ref_right t54 _ (et54.on hM.below) (exsSh_mem (sm_sh (smsSh_mem hs (List.mem_of_getElem? ht2))).2.2.1 (List.mem_of_getElem? ht54))) (congrArg Value.bool h55)) fun a w hK hM => ?_
      refine stepP hK 139 (.bool false) (by kernel_rfl) (by kernel_rfl) fun a hK => ?_
      refine region_done hK [(139, .bool false), (130, .bool true), (125, .bool (smBad2 t2 || !(smsOk t2.th) || !(smsOk t2.el))), (91, .bool (smBad1 t2)), (6, .bool (ptIs t2.kind)), (5, pA b4 0), (4, pA b3 0), (11, .bool true), (2, .bool false), (0, .slice A l.length c), (3, .int .i64 ((i : Nat) : Int)), (7, .int .i64 ((k : Nat) : Int))] ⟨rfl, rfl, rfl, rfl, rfl, rfl, rfl, rfl, rfl, rfl, rfl, rfl, trivial⟩ fun a hK => ?_
      refine wp_cond_false (hK.get rfl) ?_
      refine wp_skip ?_
      refine region_go (lst := [0, 1, 2]) (by kernel_rfl) ?_
      refine stepM hK 131 7 (by kernel_rfl) (.inl rfl) rfl fun a hK => ?_
      refine stepP hK 132 (.int .i64 (((k + 1) : Nat) : Int)) (by kernel_rfl) (run_addN (i := k) (j := 1) rfl rfl rfl (by omega)) fun a hK => ?_
      refine stepM hK 7 132 (by kernel_rfl) (.inr rfl) rfl fun a hK => ?_
      refine region_done hK [(7, .int .i64 (((k + 1) : Nat) : Int)), (139, .bool false), (130, .bool true), (125, .bool (smBad2 t2 || !(smsOk t2.th) || !(smsOk t2.el))), (91, .bool (smBad1 t2)), (6, .bool (ptIs t2.kind)), (5, pA b4 0), (4, pA b3 0), (11, .bool true), (2, .bool false), (0, .slice A l.length c), (3, .int .i64 ((i : Nat) : Int))] ⟨rfl, rfl, rfl, rfl, rfl, rfl, rfl, rfl, rfl, rfl, rfl, rfl, trivial⟩ fun a hK => ?_
      have hRn : (k + 1) ≤ t2.es.length ∧ exsOk (t2.es.drop (k + 1)) = exsOk t2.es := ⟨by omega, by rw [← hR.2, exsOk_step ht54, h55]; rfl⟩
      have hmn : t2.es.length - (k + 1) < t2.es.length - k := by omega
      exact ⟨k + 1, hK.sub ⟨rfl, rfl, rfl, rfl, rfl, rfl, rfl, rfl, rfl, rfl, trivial⟩, hM, hRn, hmn⟩
     ·refine stepRet hK hM 138 #[.agg #[.int .i64 t54.op, .int .i64 t54.num, Str t54.nm, .slice t54.A t54.ks.length t54.c]] (.bool false) (by kernel_rfl) (run_callE en_cantileverref03_right rfl rfl (by kernel_rfl)) (ret_eq (ref_right t54 _ (et54.on hM.below) (exsSh_mem (sm_sh (smsSh_mem hs (List.mem_of_getElem? ht2))).2.2.1 (List.mem_of_getElem? ht54))) (congrArg Value.bool h55)) fun a w hK hM => ?_
      refine stepP hK 139 (.bool true) (by kernel_rfl) (by kernel_rfl) fun a hK => ?_
      refine region_done hK [(139, .bool true), (130, .bool true), (125, .bool (smBad2 t2 || !(smsOk t2.th) || !(smsOk t2.el))), (91, .bool (smBad1 t2)), (6, .bool (ptIs t2.kind)), (5, pA b4 0), (4, pA b3 0), (11, .bool true), (2, .bool false), (0, .slice A l.length c), (3, .int .i64 ((i : Nat) : Int)), (7, .int .i64 ((k : Nat) : Int))] ⟨rfl, rfl, rfl, rfl, rfl, rfl, rfl, rfl, rfl, rfl, rfl, rfl, trivial⟩ fun a hK => ?_
      refine wp_cond_true (hK.get rfl) ?_
      refine wp_seq ?_
      refine region_go (lst := [0]) (by kernel_rfl) ?_
      refine stepP hK 2 (.bool false) (by kernel_rfl) (by kernel_rfl) fun a hK => ?_
      refine region_done hK [(2, .bool false), (139, .bool true), (130, .bool true), (125, .bool (smBad2 t2 || !(smsOk t2.th) || !(smsOk t2.el))), (91, .bool (smBad1 t2)), (6, .bool (ptIs t2.kind)), (5, pA b4 0), (4, pA b3 0), (11, .bool true), (0, .slice A l.length c), (3, .int .i64 ((i : Nat) : Int)), (7, .int .i64 ((k : Nat) : Int))] ⟨rfl, rfl, rfl, rfl, rfl, rfl, rfl, rfl, rfl, rfl, rfl, rfl, trivial⟩ fun a hK => ?_
      refine wp_ret ?_
      exact ret_t hK rfl (u := (.bool false)) rfl (⟨by rw [← hRo.2, smsOk_step ht2, sm_go hb1 hb2, ← hR.2, exsOk_step ht54, h55]; rfl, hM.below⟩)
    ·refine stepP hK 130 (.bool false) (by kernel_rfl) (okBool (b := (decide ((((k : Nat) : Int) : Int) < ((t2.es.length : Nat) : Int)))) (by kernel_rfl) (decide_eq_false h53)) fun a hK => ?_
     refine region_done hK [(130, .bool false), (125, .bool (smBad2 t2 || !(smsOk t2.th) || !(smsOk t2.el))), (91, .bool (smBad1 t2)), (6, .bool (ptIs t2.kind)), (5, pA b4 0), (4, pA b3 0), (11, .bool true), (2, .bool false), (0, .slice A l.length c), (3, .int .i64 ((i : Nat) : Int)), (7, .int .i64 ((k : Nat) : Int))] ⟨rfl, rfl, rfl, rfl, rfl, rfl, rfl, rfl, rfl, rfl, rfl, trivial⟩ fun a hK => ?_
     refine wp_cond_false (hK.get rfl) ?_
     refine wp_exit (exit_then (exit_then (exit_here 2 ?_)))
     refine region_go (lst := [0, 1, 2]) (by kernel_rfl) ?_
     refine stepM hK 12 3 (by kernel_rfl) (.inl rfl) rfl fun a hK => ?_
     refine stepP hK 13 (.int .i64 (((i + 1) : Nat) : Int)) (by kernel_rfl) (run_addN (i := i) (j := 1) rfl rfl rfl (by omega)) fun a hK => ?_
     refine stepM hK 3 13 (by kernel_rfl) (.inr rfl) rfl fun a hK => ?_
     refine region_done hK [(3, .int .i64 (((i + 1) : Nat) : Int)), (130, .bool false), (125, .bool (smBad2 t2 || !(smsOk t2.th) || !(smsOk t2.el))), (91, .bool (smBad1 t2)), (6, .bool (ptIs t2.kind)), (5, pA b4 0), (4, pA b3 0), (11, .bool true), (2, .bool false), (0, .slice A l.length c), (7, .int .i64 ((k : Nat) : Int))] ⟨rfl, rfl, rfl, rfl, rfl, rfl, rfl, rfl, rfl, rfl, rfl, trivial⟩ fun a hK => ?_
     have hRn : (i + 1) ≤ l.length ∧ smsOk (l.drop (i + 1)) = smsOk l := ⟨by omega, by rw [← hRo.2, smsOk_step ht2, sm_go hb1 hb2, ← hR.2, exsOk_end (by omega)]; rfl⟩
     have hmn : l.length - (i + 1) < l.length - i := by omega
     exact ⟨i + 1, hK.sub ⟨rfl, rfl, rfl, trivial⟩, (hM.drop 2), hRn, hmn⟩
 ·refine stepP hK 11 (.bool false) (by kernel_rfl) (okBool (b := (decide ((((i : Nat) : Int) : Int) < ((l.length : Nat) : Int)))) (by kernel_rfl) (decide_eq_false h1)) fun a hK => ?_
  refine region_done hK [(11, .bool false), (2, .bool false), (0, .slice A l.length c), (3, .int .i64 ((i : Nat) : Int))] ⟨rfl, rfl, rfl, rfl, trivial⟩ fun a hK => ?_
  refine wp_cond_false (hK.get rfl) ?_
  refine wp_exit (exit_then (exit_then (exit_here 0 ?_)))
  refine wp_seq ?_
  refine region_go (lst := [0]) (by kernel_rfl) ?_
  refine stepP hK 2 (.bool true) (by kernel_rfl) (by kernel_rfl) fun a hK => ?_
  refine region_done hK [(2, .bool true), (11, .bool false), (0, .slice A l.length c), (3, .int .i64 ((i : Nat) : Int))] ⟨rfl, rfl, rfl, rfl, trivial⟩ fun a hK => ?_
  refine wp_ret ?_
  exact ret_t hK rfl (u := (.bool true)) rfl (⟨by rw [← hR.2, smsOk_end (by omega)], hM.below⟩)
end Go.Proofs.YtmfiiapmkidmkaaDoor
