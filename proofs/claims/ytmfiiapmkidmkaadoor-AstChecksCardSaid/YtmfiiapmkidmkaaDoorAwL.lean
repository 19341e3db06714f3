/-
  AstChecks at its contract.
-/
import Derived.Test.YtmfiiapmkidmkaaDoorAwJ
import Derived.Test.YtmfiiapmkidmkaaDoorAsJ
namespace Go.Proofs.YtmfiiapmkidmkaaDoor
open Go Go.RowKit

theorem en_cantileverlaw03_AstChecks : Enters Tryd.prog 4 := enters_of Tryd.func4 (by kernel_rfl) rfl
theorem pgHf_sz (p : Pg) (h : 0 ≤ pgHf p 3000) : thsSz p.ts ≤ 3000 := by
  unfold pgHf at h
  have h1 := thsHf_sz _ _ h
  have h2 := dcsHf_le p.ds (3000 - min (3000 + 1) ((p.ds.length : Nat) : Int) - min (3000 + 1) ((p.ts.length : Nat) : Int))
  omega
set_option maxRecDepth 100000 in
set_option maxHeartbeats 4000000 in
theorem checks_yes (p : Pg) (e : Ex) (w0 : World) (hTab : TabOk w0) (hp : PgAt w0 p) (he : ExAt w0 e) : Calls Tryd.prog 4 #[.agg #[.slice p.A1 p.ds.length p.c1, .slice p.A2 p.ts.length p.c2], .agg #[.int .i64 e.op, .int .i64 e.num, Str e.nm, .slice e.A e.ks.length e.c]] w0 (Ret w0 (.bool true)) := by
  refine calls_K (args := [.agg #[.slice p.A1 p.ds.length p.c1, .slice p.A2 p.ts.length p.c2], .agg #[.int .i64 e.op, .int .i64 e.num, Str e.nm, .slice e.A e.ks.length e.c]]) (n := 41) (env := [(0, .agg #[.slice p.A1 p.ds.length p.c1, .slice p.A2 p.ts.length p.c2]), (1, .agg #[.int .i64 e.op, .int .i64 e.num, Str e.nm, .slice e.A e.ks.length e.c])]) Tryd.func4 rfl rfl rfl ⟨rfl, rfl, trivial⟩ fun a w hK hM => ?_
  refine wp_seq ?_
  refine region_go (lst := [0, 1, 2]) (by kernel_rfl) ?_
  refine stepAlloc hK hM 2 25 [.slice p.A1 p.ds.length p.c1, .slice p.A2 p.ts.length p.c2] (fun b => .pointer (some ⟨b, 0, none⟩)) (by kernel_rfl) (by kernel_rfl) fun b1 a w hK hM => ?_
  refine stepAlloc hK hM 3 36 [.int .i64 e.op, .int .i64 e.num, Str e.nm, .slice e.A e.ks.length e.c] (fun b => .pointer (some ⟨b, 0, none⟩)) (by kernel_rfl) (by kernel_rfl) fun b2 a w hK hM => ?_
  refine stepP hK 4 (.bool false) (by kernel_rfl) (by kernel_rfl) fun a hK => ?_
  refine region_done hK [(4, .bool false), (3, .pointer (some ⟨b2, 0, none⟩)), (2, .pointer (some ⟨b1, 0, none⟩)), (0, .agg #[.slice p.A1 p.ds.length p.c1, .slice p.A2 p.ts.length p.c2]), (1, .agg #[.int .i64 e.op, .int .i64 e.num, Str e.nm, .slice e.A e.ks.length e.c])] ⟨rfl, rfl, rfl, rfl, rfl, trivial⟩ fun a hK => ?_
  refine wp_seq ?_
  refine wp_seq ?_
  refine region_go (lst := [0, 1]) (by kernel_rfl) ?_
  refine stepRet hK hM 5 #[] (.bool true) (by kernel_rfl) (run_callE en_cantileverlaw03_lives rfl rfl (by kernel_rfl)) (lives_yes _ (hTab.on hM.below)) fun a w hK hM => ?_
  refine stepP hK 6 (.bool false) (by kernel_rfl) (by kernel_rfl) fun a hK => ?_
  refine region_done hK [(6, .bool false), (4, .bool false), (3, .pointer (some ⟨b2, 0, none⟩)), (2, .pointer (some ⟨b1, 0, none⟩)), (0, .agg #[.slice p.A1 p.ds.length p.c1, .slice p.A2 p.ts.length p.c2]), (1, .agg #[.int .i64 e.op, .int .i64 e.num, Str e.nm, .slice e.A e.ks.length e.c])] ⟨rfl, rfl, rfl, rfl, rfl, rfl, trivial⟩ fun a hK => ?_
  refine wp_cond_false (hK.get rfl) ?_
  refine wp_skip ?_
  refine wp_seq ?_
  refine wp_seq ?_
  refine region_go (lst := [0, 1, 2, 3, 4, 5, 6, 7]) (by kernel_rfl) ?_
  refine stepLoad hK 7 (.agg #[.slice p.A1 p.ds.length p.c1, .slice p.A2 p.ts.length p.c2]) (by kernel_rfl) rfl rfl ((hM.row 1 rfl).cells 0 2) (by kernel_rfl) fun a hK => ?_
  rcases Bool.eq_false_or_eq_true (decide ((0 : Int) ≤ pgHf p 3000)) with h3 | h3
  · refine stepRet hK hM 8 #[.agg #[.slice p.A1 p.ds.length p.c1, .slice p.A2 p.ts.length p.c2], .int .i64 3000] (.bool true) (by kernel_rfl) (run_callE en_cantileverkit_LightProgram rfl rfl (by kernel_rfl)) (ret_eq (kit_LightProgram p 3000 _ (hp.on hM.below) (by decide) (by decide)) (congrArg Value.bool h3)) fun a w hK hM => ?_
    refine stepP hK 9 (.bool false) (by kernel_rfl) (by kernel_rfl) fun a hK => ?_
    refine stepM hK 10 9 (by kernel_rfl) (.inl rfl) rfl fun a hK => ?_
    refine stepLoad hK 11 (.agg #[.int .i64 e.op, .int .i64 e.num, Str e.nm, .slice e.A e.ks.length e.c]) (by kernel_rfl) rfl rfl ((hM.row 0 rfl).cells 0 4) (by kernel_rfl) fun a hK => ?_
    rcases Bool.eq_false_or_eq_true (decide ((0 : Int) ≤ e.hf 3000)) with h4 | h4
    · refine stepRet hK hM 12 #[.agg #[.int .i64 e.op, .int .i64 e.num, Str e.nm, .slice e.A e.ks.length e.c], .int .i64 3000] (.bool true) (by kernel_rfl) (run_callE en_cantileverkit_Light rfl rfl (by kernel_rfl)) (ret_eq (kit_Light e 3000 _ (he.on hM.below) (by decide) (by decide)) (congrArg Value.bool h4)) fun a w hK hM => ?_
      refine stepP hK 13 (.bool false) (by kernel_rfl) (by kernel_rfl) fun a hK => ?_
      refine stepP hK 14 (.bool false) (by kernel_rfl) (by kernel_rfl) fun a hK => ?_
      refine region_done hK [(14, .bool false), (6, .bool false), (4, .bool false), (3, .pointer (some ⟨b2, 0, none⟩)), (2, .pointer (some ⟨b1, 0, none⟩)), (0, .agg #[.slice p.A1 p.ds.length p.c1, .slice p.A2 p.ts.length p.c2]), (1, .agg #[.int .i64 e.op, .int .i64 e.num, Str e.nm, .slice e.A e.ks.length e.c])] ⟨rfl, rfl, rfl, rfl, rfl, rfl, rfl, trivial⟩ fun a hK => ?_
      refine wp_cond_false (hK.get rfl) ?_
      refine wp_skip ?_
      refine wp_seq ?_
      have hlp : 0 ≤ pgHf p 3000 := of_decide_eq_true h3
      have hle : 0 ≤ e.hf 3000 := of_decide_eq_true h4
      have hsh := pgHf_sh p hlp
      have hse := hf_sh e 3000 (by decide) hle
      have hsz : thsSz p.ts ≤ 3000 := pgHf_sz p hlp
      have hez : e.sz ≤ 3000 := by have h9 := hf_sz e 3000 hle; omega
      refine region_any (F := fun w => Mem w0 w [.row b2 36 [.int .i64 e.op, .int .i64 e.num, Str e.nm, .slice e.A e.ks.length e.c], .row b1 25 [.slice p.A1 p.ds.length p.c1, .slice p.A2 p.ts.length p.c2]]) hK [some (.agg #[.slice p.A1 p.ds.length p.c1, .slice p.A2 p.ts.length p.c2]), some (.int .i64 (chkP p)), some (.agg #[.slice p.A1 p.ds.length p.c1, .slice p.A2 p.ts.length p.c2]), some (.int .i64 (chkP p)), some (.bool true), some (.bool true), some (.agg #[.int .i64 e.op, .int .i64 e.num, Str e.nm, .slice e.A e.ks.length e.c]), some (.int .i64 (chkE e)), some (.agg #[.int .i64 e.op, .int .i64 e.num, Str e.nm, .slice e.A e.ks.length e.c]), some (.int .i64 (chkE e)), some (.bool true), some (.bool true), some (.bool true), some (.agg #[.slice p.A1 p.ds.length p.c1, .slice p.A2 p.ts.length p.c2]), some (.int .i64 (((thsSz p.ts) : Nat) : Int)), some (.agg #[.slice p.A1 p.ds.length p.c1, .slice p.A2 p.ts.length p.c2]), some (.int .i64 (((thsSz p.ts) : Nat) : Int)), some (.bool true), some (.bool true), some (.bool true), some (.agg #[.slice p.A1 p.ds.length p.c1, .slice p.A2 p.ts.length p.c2]), some (.int .i64 (((thsDp p.ts) : Nat) : Int)), some (.agg #[.slice p.A1 p.ds.length p.c1, .slice p.A2 p.ts.length p.c2]), some (.int .i64 (((thsDp p.ts) : Nat) : Int)), some (.bool true), some (.bool true), some (.bool true)] 27 (fun _ _ hb hm => hm.go hb) hM (by kernel_rfl) (by kernel_rfl) ⟨⟨⟨⟨⟨⟨⟨⟨⟨⟨⟨⟨⟨⟨⟨⟨⟨⟨⟨⟨⟨⟨⟨⟨⟨⟨⟨trivial, ?_⟩, ?_⟩, ?_⟩, ?_⟩, ?_⟩, ?_⟩, ?_⟩, ?_⟩, ?_⟩, ?_⟩, ?_⟩, ?_⟩, ?_⟩, ?_⟩, ?_⟩, ?_⟩, ?_⟩, ?_⟩, ?_⟩, ?_⟩, ?_⟩, ?_⟩, ?_⟩, ?_⟩, ?_⟩, ?_⟩, ?_⟩ [(4, .bool true), (14, .bool false), (6, .bool false), (3, .pointer (some ⟨b2, 0, none⟩)), (2, .pointer (some ⟨b1, 0, none⟩)), (0, .agg #[.slice p.A1 p.ds.length p.c1, .slice p.A2 p.ts.length p.c2]), (1, .agg #[.int .i64 e.op, .int .i64 e.num, Str e.nm, .slice e.A e.ks.length e.c])] (by kernel_rfl) fun a w hK hM => ?_
      · exact .val (.agg #[.slice p.A1 p.ds.length p.c1, .slice p.A2 p.ts.length p.c2]) rfl (by kernel_rfl) (fun w hM => run_loadE rfl rfl ((hM.row 1 rfl).cells 0 2) (by kernel_rfl))
      · exact .call _ #[.agg #[.slice p.A1 p.ds.length p.c1, .slice p.A2 p.ts.length p.c2]] (.int .i64 (chkP p)) rfl (by kernel_rfl) (fun w => (run_callE en_ast_Check rfl rfl (by kernel_rfl))) (fun w hM => ast_Check p _ (hTab.on hM.below) (hp.on hM.below) (by omega) hsh)
      · exact .val (.agg #[.slice p.A1 p.ds.length p.c1, .slice p.A2 p.ts.length p.c2]) rfl (by kernel_rfl) (fun w hM => run_loadE rfl rfl ((hM.row 1 rfl).cells 0 2) (by kernel_rfl))
      · exact .call _ #[.agg #[.slice p.A1 p.ds.length p.c1, .slice p.A2 p.ts.length p.c2]] (.int .i64 (chkP p)) rfl (by kernel_rfl) (fun w => (run_callE en_cantileverref03_Check rfl rfl (by kernel_rfl))) (fun w hM => ref_Check p _ (hp.on hM.below) (by omega) hsh)
      · exact .val (.bool true) rfl (by kernel_rfl) (fun w hM => (okBool (b := (decide (((chkP p) : Int) = (chkP p)))) (by kernel_rfl) (decide_eq_true rfl)))
      · exact .val _ rfl (by kernel_rfl) (fun w hM => (by kernel_rfl))
      · exact .val (.agg #[.int .i64 e.op, .int .i64 e.num, Str e.nm, .slice e.A e.ks.length e.c]) rfl (by kernel_rfl) (fun w hM => run_loadE rfl rfl ((hM.row 0 rfl).cells 0 4) (by kernel_rfl))
      · exact .call _ #[.agg #[.int .i64 e.op, .int .i64 e.num, Str e.nm, .slice e.A e.ks.length e.c]] (.int .i64 (chkE e)) rfl (by kernel_rfl) (fun w => (run_callE en_ast_CheckExpr rfl rfl (by kernel_rfl))) (fun w hM => ast_CheckExpr e _ (hTab.on hM.below) (he.on hM.below) (by omega) hse)
      · exact .val (.agg #[.int .i64 e.op, .int .i64 e.num, Str e.nm, .slice e.A e.ks.length e.c]) rfl (by kernel_rfl) (fun w hM => run_loadE rfl rfl ((hM.row 0 rfl).cells 0 4) (by kernel_rfl))
      · exact .call _ #[.agg #[.int .i64 e.op, .int .i64 e.num, Str e.nm, .slice e.A e.ks.length e.c]] (.int .i64 (chkE e)) rfl (by kernel_rfl) (fun w => (run_callE en_cantileverref03_CheckExpr rfl rfl (by kernel_rfl))) (fun w hM => ref_CheckExpr e _ (he.on hM.below) (by omega) hse)
      · exact .val (.bool true) rfl (by kernel_rfl) (fun w hM => (okBool (b := (decide (((chkE e) : Int) = (chkE e)))) (by kernel_rfl) (decide_eq_true rfl)))
      iterate 2 (exact .val _ rfl (by kernel_rfl) (fun w hM => (by kernel_rfl)))
      · exact .val (.agg #[.slice p.A1 p.ds.length p.c1, .slice p.A2 p.ts.length p.c2]) rfl (by kernel_rfl) (fun w hM => run_loadE rfl rfl ((hM.row 1 rfl).cells 0 2) (by kernel_rfl))
      · exact .call _ #[.agg #[.slice p.A1 p.ds.length p.c1, .slice p.A2 p.ts.length p.c2]] (.int .i64 (((thsSz p.ts) : Nat) : Int)) rfl (by kernel_rfl) (fun w => (run_callE en_ast_Size rfl rfl (by kernel_rfl))) (fun w hM => ast_Size p _ (hp.on hM.below) (by omega) hsh)
      · exact .val (.agg #[.slice p.A1 p.ds.length p.c1, .slice p.A2 p.ts.length p.c2]) rfl (by kernel_rfl) (fun w hM => run_loadE rfl rfl ((hM.row 1 rfl).cells 0 2) (by kernel_rfl))
      · exact .call _ #[.agg #[.slice p.A1 p.ds.length p.c1, .slice p.A2 p.ts.length p.c2]] (.int .i64 (((thsSz p.ts) : Nat) : Int)) rfl (by kernel_rfl) (fun w => (run_callE en_cantileverref03_Size rfl rfl (by kernel_rfl))) (fun w hM => ref_Size p _ (hp.on hM.below) (by omega))
      · exact .val (.bool true) rfl (by kernel_rfl) (fun w hM => (okBool (b := (decide (((((thsSz p.ts) : Nat) : Int) : Int) = (((thsSz p.ts) : Nat) : Int)))) (by kernel_rfl) (decide_eq_true rfl)))
      iterate 2 (exact .val _ rfl (by kernel_rfl) (fun w hM => (by kernel_rfl)))
      · exact .val (.agg #[.slice p.A1 p.ds.length p.c1, .slice p.A2 p.ts.length p.c2]) rfl (by kernel_rfl) (fun w hM => run_loadE rfl rfl ((hM.row 1 rfl).cells 0 2) (by kernel_rfl))
      · exact .call _ #[.agg #[.slice p.A1 p.ds.length p.c1, .slice p.A2 p.ts.length p.c2]] (.int .i64 (((thsDp p.ts) : Nat) : Int)) rfl (by kernel_rfl) (fun w => (run_callE en_ast_Deep rfl rfl (by kernel_rfl))) (fun w hM => ast_Deep p _ (hp.on hM.below) (by omega) hsh)
      · exact .val (.agg #[.slice p.A1 p.ds.length p.c1, .slice p.A2 p.ts.length p.c2]) rfl (by kernel_rfl) (fun w hM => run_loadE rfl rfl ((hM.row 1 rfl).cells 0 2) (by kernel_rfl))
      · exact .call _ #[.agg #[.slice p.A1 p.ds.length p.c1, .slice p.A2 p.ts.length p.c2]] (.int .i64 (((thsDp p.ts) : Nat) : Int)) rfl (by kernel_rfl) (fun w => (run_callE en_cantileverref03_Deep rfl rfl (by kernel_rfl))) (fun w hM => ref_Deep p _ (hp.on hM.below) (by omega))
      · exact .val (.bool true) rfl (by kernel_rfl) (fun w hM => (okBool (b := (decide (((((thsDp p.ts) : Nat) : Int) : Int) = (((thsDp p.ts) : Nat) : Int)))) (by kernel_rfl) (decide_eq_true rfl)))
      iterate 2 (exact .val _ rfl (by kernel_rfl) (fun w hM => (by kernel_rfl)))
      refine wp_ret ?_
      exact ret_t hK rfl (u := (.bool true)) rfl (⟨rfl, hM.below⟩)
    · refine stepRet hK hM 12 #[.agg #[.int .i64 e.op, .int .i64 e.num, Str e.nm, .slice e.A e.ks.length e.c], .int .i64 3000] (.bool false) (by kernel_rfl) (run_callE en_cantileverkit_Light rfl rfl (by kernel_rfl)) (ret_eq (kit_Light e 3000 _ (he.on hM.below) (by decide) (by decide)) (congrArg Value.bool h4)) fun a w hK hM => ?_
      refine stepP hK 13 (.bool true) (by kernel_rfl) (by kernel_rfl) fun a hK => ?_
      refine stepP hK 14 (.bool true) (by kernel_rfl) (by kernel_rfl) fun a hK => ?_
      refine region_done hK [(14, .bool true), (6, .bool false), (4, .bool false), (3, .pointer (some ⟨b2, 0, none⟩)), (2, .pointer (some ⟨b1, 0, none⟩)), (0, .agg #[.slice p.A1 p.ds.length p.c1, .slice p.A2 p.ts.length p.c2]), (1, .agg #[.int .i64 e.op, .int .i64 e.num, Str e.nm, .slice e.A e.ks.length e.c])] ⟨rfl, rfl, rfl, rfl, rfl, rfl, rfl, trivial⟩ fun a hK => ?_
      refine wp_cond_true (hK.get rfl) ?_
      refine wp_seq ?_
      refine region_go (lst := [0]) (by kernel_rfl) ?_
      refine stepP hK 4 (.bool true) (by kernel_rfl) (by kernel_rfl) fun a hK => ?_
      refine region_done hK [(4, .bool true), (14, .bool true), (6, .bool false), (3, .pointer (some ⟨b2, 0, none⟩)), (2, .pointer (some ⟨b1, 0, none⟩)), (0, .agg #[.slice p.A1 p.ds.length p.c1, .slice p.A2 p.ts.length p.c2]), (1, .agg #[.int .i64 e.op, .int .i64 e.num, Str e.nm, .slice e.A e.ks.length e.c])] ⟨rfl, rfl, rfl, rfl, rfl, rfl, rfl, trivial⟩ fun a hK => ?_
      refine wp_ret ?_
      exact ret_t hK rfl (u := (.bool true)) rfl (⟨rfl, hM.below⟩)
  · refine stepRet hK hM 8 #[.agg #[.slice p.A1 p.ds.length p.c1, .slice p.A2 p.ts.length p.c2], .int .i64 3000] (.bool false) (by kernel_rfl) (run_callE en_cantileverkit_LightProgram rfl rfl (by kernel_rfl)) (ret_eq (kit_LightProgram p 3000 _ (hp.on hM.below) (by decide) (by decide)) (congrArg Value.bool h3)) fun a w hK hM => ?_
    refine stepP hK 9 (.bool true) (by kernel_rfl) (by kernel_rfl) fun a hK => ?_
    refine stepM hK 10 9 (by kernel_rfl) (.inl rfl) rfl fun a hK => ?_
    refine stepN hK 11 (by kernel_rfl) fun a hK => ?_
    refine stepN hK 12 (by kernel_rfl) fun a hK => ?_
    refine stepN hK 13 (by kernel_rfl) fun a hK => ?_
    refine stepP hK 14 (.bool true) (by kernel_rfl) (by kernel_rfl) fun a hK => ?_
    refine region_done hK [(14, .bool true), (6, .bool false), (4, .bool false), (3, .pointer (some ⟨b2, 0, none⟩)), (2, .pointer (some ⟨b1, 0, none⟩)), (0, .agg #[.slice p.A1 p.ds.length p.c1, .slice p.A2 p.ts.length p.c2]), (1, .agg #[.int .i64 e.op, .int .i64 e.num, Str e.nm, .slice e.A e.ks.length e.c])] ⟨rfl, rfl, rfl, rfl, rfl, rfl, rfl, trivial⟩ fun a hK => ?_
    refine wp_cond_true (hK.get rfl) ?_
    refine wp_seq ?_
    refine region_go (lst := [0]) (by kernel_rfl) ?_
    refine stepP hK 4 (.bool true) (by kernel_rfl) (by kernel_rfl) fun a hK => ?_
    refine region_done hK [(4, .bool true), (14, .bool true), (6, .bool false), (3, .pointer (some ⟨b2, 0, none⟩)), (2, .pointer (some ⟨b1, 0, none⟩)), (0, .agg #[.slice p.A1 p.ds.length p.c1, .slice p.A2 p.ts.length p.c2]), (1, .agg #[.int .i64 e.op, .int .i64 e.num, Str e.nm, .slice e.A e.ks.length e.c])] ⟨rfl, rfl, rfl, rfl, rfl, rfl, rfl, trivial⟩ fun a hK => ?_
    refine wp_ret ?_
    exact ret_t hK rfl (u := (.bool true)) rfl (⟨rfl, hM.below⟩)
end Go.Proofs.YtmfiiapmkidmkaaDoor
