/-
 Package ast's closures; sizes and depths.
-/
import Derived.Test.YtmfiiapmkidmkaaDoorTreeX
import Derived.Test.YtmfiiapmkidmkaaDoorAwB
namespace Go.Proofs.YtmfiiapmkidmkaaDoor
open Go Go.RowKit

theorem en_ast_anyExpr_1 : Enters Tryd.prog 70 := enters_of Tryd.func70 (by kernel_rfl) rfl
theorem en_ast_anyStmt_1 : Enters Tryd.prog 71 := enters_of Tryd.func71 (by kernel_rfl) rfl
theorem en_ast_anyExpr : Enters Tryd.prog 35 := enters_of Tryd.func35 (by kernel_rfl) rfl
theorem en_ast_anyStmt : Enters Tryd.prog 36 := enters_of Tryd.func36 (by kernel_rfl) rfl
theorem en_ast_limits : Enters Tryd.prog 28 := enters_of Tryd.func28 (by kernel_rfl) rfl
theorem en_ast_limits_1 : Enters Tryd.prog 65 := enters_of Tryd.func65 (by kernel_rfl) rfl
theorem en_ast_Size_1 : Enters Tryd.prog 44 := enters_of Tryd.func44 (by kernel_rfl) rfl
theorem en_ast_Deep_1 : Enters Tryd.prog 34 := enters_of Tryd.func34 (by kernel_rfl) rfl
theorem en_ast_Size : Enters Tryd.prog 16 := enters_of Tryd.func16 (by kernel_rfl) rfl
theorem en_ast_Deep : Enters Tryd.prog 11 := enters_of Tryd.func11 (by kernel_rfl) rfl
set_option maxRecDepth 100000 in
set_option maxHeartbeats 4000000 in
theorem any_expr2 {σ : Type} {w0 : World} {G : σ → List It} {ok : Nat → σ → Prop} {h : Nat → σ → Bool × σ} {fd : FuncId} {cd : Array Value} (hD : StepD w0 G ok h fd cd) (bE bS : Nat) : StepE w0 (fun s => .row bE 61 [.func (.func fd) #[] cd] :: .row bS 61 [.func (.func fd) #[] cd] :: G s) ok (fun _ d s => h d s) 70 #[.pointer (some ⟨bE, 0, none⟩)] := by
 refine ⟨en_ast_anyExpr_1, ?_, fun _ d k s h1 h2 => hD.ok d k s h1 h2⟩
 intro e d k s F w1 hM0 he hs hd hok
 replace hM0 : Mem w0 w1 ((.row bE 61 [.func (.func fd) #[] cd] :: .row bS 61 [.func (.func fd) #[] cd] :: (G s ++ F))) := hM0
 refine calls_KM (args := [.agg #[.int .i64 e.op, .int .i64 e.num, Str e.nm, .slice e.A e.ks.length e.c], .int .i64 ((d : Nat) : Int), .pointer (some ⟨bE, 0, none⟩)]) (n := 9) (env := [(0, .agg #[.int .i64 e.op, .int .i64 e.num, Str e.nm, .slice e.A e.ks.length e.c]), (1, .int .i64 ((d : Nat) : Int)), (2, .pointer (some ⟨bE, 0, none⟩))]) Tryd.func70 rfl rfl rfl ⟨rfl, rfl, rfl, trivial⟩ hM0 fun a w hK hM => ?_
 refine wp_seq ?_
 refine region_go (lst := [0, 1]) (by kernel_rfl) ?_
 refine stepAlloc hK hM 3 36 [.int .i64 e.op, .int .i64 e.num, Str e.nm, .slice e.A e.ks.length e.c] (fun b => .pointer (some ⟨b, 0, none⟩)) (by kernel_rfl) (by kernel_rfl) fun b1 a w hK hM => ?_
 refine stepP hK 5 (.bool false) (by kernel_rfl) (by kernel_rfl) fun a hK => ?_
 refine region_done hK [(5, .bool false), (0, .agg #[.int .i64 e.op, .int .i64 e.num, Str e.nm, .slice e.A e.ks.length e.c]), (1, .int .i64 ((d : Nat) : Int)), (2, .pointer (some ⟨bE, 0, none⟩))] ⟨rfl, rfl, rfl, rfl, trivial⟩ fun a hK => ?_
 refine wp_seq ?_
 refine region_go (lst := [0, 1, 2, 3]) (by kernel_rfl) ?_
 refine stepLoad hK 6 (.func (.func fd) #[] cd) (by kernel_rfl) rfl rfl ((hM.row 1 rfl).cells 0 1) (by kernel_rfl) fun a hK => ?_
 refine stepM hK 7 1 (by kernel_rfl) (.inl rfl) rfl fun a hK => ?_
 have hc5m : Mem w0 _ (G s ++ ([.row b1 36 [.int .i64 e.op, .int .i64 e.num, Str e.nm, .slice e.A e.ks.length e.c], .row bE 61 [.func (.func fd) #[] cd], .row bS 61 [.func (.func fd) #[] cd]] ++ F)) := (hM.perm (perm_mid [.row b1 36 [.int .i64 e.op, .int .i64 e.num, Str e.nm, .slice e.A e.ks.length e.c], .row bE 61 [.func (.func fd) #[] cd], .row bS 61 [.func (.func fd) #[] cd]] (G s) F))
 have hc5 := hD.call d k s ([.row b1 36 [.int .i64 e.op, .int .i64 e.num, Str e.nm, .slice e.A e.ks.length e.c], .row bE 61 [.func (.func fd) #[] cd], .row bS 61 [.func (.func fd) #[] cd]] ++ F) _ hc5m hd hok
 replace hc5 := hc5.mono (fun _ _ h => Gives.perm (g' := fun r : Bool × σ => [.row b1 36 [.int .i64 e.op, .int .i64 e.num, Str e.nm, .slice e.A e.ks.length e.c], .row bE 61 [.func (.func fd) #[] cd], .row bS 61 [.func (.func fd) #[] cd]] ++ (G r.2 ++ F)) (fun r => perm_mid2 [.row b1 36 [.int .i64 e.op, .int .i64 e.num, Str e.nm, .slice e.A e.ks.length e.c], .row bE 61 [.func (.func fd) #[] cd], .row bS 61 [.func (.func fd) #[] cd]] (G r.2) F) h)
 refine stepCallIn hK 8 _ (by kernel_rfl) (run_callE hD.enters rfl rfl (by kernel_rfl)) (hc5) ?_
 rintro ⟨r2, q3⟩ a w hR4 hK hM
 replace hM := hM.to (.row b1 36 [.int .i64 e.op, .int .i64 e.num, Str e.nm, .slice e.A e.ks.length e.c] :: .row bE 61 [.func (.func fd) #[] cd] :: .row bS 61 [.func (.func fd) #[] cd] :: (G q3 ++ F)) (by kernel_rfl)
 rcases Bool.eq_false_or_eq_true r2 with h7 | h7
 ·refine stepP hK 5 (.bool true) (by kernel_rfl) (okBool (b := r2) (by kernel_rfl) h7) fun a hK => ?_
  refine region_done hK [(5, .bool true), (0, .agg #[.int .i64 e.op, .int .i64 e.num, Str e.nm, .slice e.A e.ks.length e.c]), (1, .int .i64 ((d : Nat) : Int)), (2, .pointer (some ⟨bE, 0, none⟩))] ⟨rfl, rfl, rfl, rfl, trivial⟩ fun a hK => ?_
  refine wp_ret ?_
  exact ret_t hK rfl (u := (.bool true)) rfl (⟨(true, q3), rfl, hM.drop 1, pair_of hR4 h7⟩)
 ·refine stepP hK 5 (.bool false) (by kernel_rfl) (okBool (b := r2) (by kernel_rfl) h7) fun a hK => ?_
  refine region_done hK [(5, .bool false), (0, .agg #[.int .i64 e.op, .int .i64 e.num, Str e.nm, .slice e.A e.ks.length e.c]), (1, .int .i64 ((d : Nat) : Int)), (2, .pointer (some ⟨bE, 0, none⟩))] ⟨rfl, rfl, rfl, rfl, trivial⟩ fun a hK => ?_
  refine wp_ret ?_
  exact ret_t hK rfl (u := (.bool false)) rfl (⟨(false, q3), rfl, hM.drop 1, pair_of hR4 h7⟩)
set_option maxRecDepth 100000 in
set_option maxHeartbeats 4000000 in
theorem any_stmt2 {σ : Type} {w0 : World} {G : σ → List It} {ok : Nat → σ → Prop} {h : Nat → σ → Bool × σ} {fd : FuncId} {cd : Array Value} (hD : StepD w0 G ok h fd cd) (bE bS : Nat) : StepS w0 (fun s => .row bE 61 [.func (.func fd) #[] cd] :: .row bS 61 [.func (.func fd) #[] cd] :: G s) ok (fun _ d s => h d s) 71 #[.pointer (some ⟨bS, 0, none⟩)] := by
 refine ⟨en_ast_anyStmt_1, ?_, fun _ d k s h1 h2 => hD.ok d k s h1 h2⟩
 intro e d k s F w1 hM0 he hs hd hok
 replace hM0 : Mem w0 w1 ((.row bE 61 [.func (.func fd) #[] cd] :: .row bS 61 [.func (.func fd) #[] cd] :: (G s ++ F))) := hM0
 refine calls_KM (args := [.agg #[.int .i64 e.kind, Str e.nm, Str e.loc, .int .i64 e.ord, .slice e.A1 e.es.length e.c1, .slice e.A2 e.th.length e.c2, .slice e.A3 e.el.length e.c3], .int .i64 ((d : Nat) : Int), .pointer (some ⟨bS, 0, none⟩)]) (n := 9) (env := [(0, .agg #[.int .i64 e.kind, Str e.nm, Str e.loc, .int .i64 e.ord, .slice e.A1 e.es.length e.c1, .slice e.A2 e.th.length e.c2, .slice e.A3 e.el.length e.c3]), (1, .int .i64 ((d : Nat) : Int)), (2, .pointer (some ⟨bS, 0, none⟩))]) Tryd.func71 rfl rfl rfl ⟨rfl, rfl, rfl, trivial⟩ hM0 fun a w hK hM => ?_
 refine wp_seq ?_
 refine region_go (lst := [0, 1]) (by kernel_rfl) ?_
 refine stepAlloc hK hM 3 30 [.int .i64 e.kind, Str e.nm, Str e.loc, .int .i64 e.ord, .slice e.A1 e.es.length e.c1, .slice e.A2 e.th.length e.c2, .slice e.A3 e.el.length e.c3] (fun b => .pointer (some ⟨b, 0, none⟩)) (by kernel_rfl) (by kernel_rfl) fun b1 a w hK hM => ?_
 refine stepP hK 5 (.bool false) (by kernel_rfl) (by kernel_rfl) fun a hK => ?_
 refine region_done hK [(5, .bool false), (0, .agg #[.int .i64 e.kind, Str e.nm, Str e.loc, .int .i64 e.ord, .slice e.A1 e.es.length e.c1, .slice e.A2 e.th.length e.c2, .slice e.A3 e.el.length e.c3]), (1, .int .i64 ((d : Nat) : Int)), (2, .pointer (some ⟨bS, 0, none⟩))] ⟨rfl, rfl, rfl, rfl, trivial⟩ fun a hK => ?_
 refine wp_seq ?_
 refine region_go (lst := [0, 1, 2, 3]) (by kernel_rfl) ?_
 refine stepLoad hK 6 (.func (.func fd) #[] cd) (by kernel_rfl) rfl rfl ((hM.row 2 rfl).cells 0 1) (by kernel_rfl) fun a hK => ?_
 refine stepM hK 7 1 (by kernel_rfl) (.inl rfl) rfl fun a hK => ?_
 have hc5m : Mem w0 _ (G s ++ ([.row b1 30 [.int .i64 e.kind, Str e.nm, Str e.loc, .int .i64 e.ord, .slice e.A1 e.es.length e.c1, .slice e.A2 e.th.length e.c2, .slice e.A3 e.el.length e.c3], .row bE 61 [.func (.func fd) #[] cd], .row bS 61 [.func (.func fd) #[] cd]] ++ F)) := (hM.perm (perm_mid [.row b1 30 [.int .i64 e.kind, Str e.nm, Str e.loc, .int .i64 e.ord, .slice e.A1 e.es.length e.c1, .slice e.A2 e.th.length e.c2, .slice e.A3 e.el.length e.c3], .row bE 61 [.func (.func fd) #[] cd], .row bS 61 [.func (.func fd) #[] cd]] (G s) F))
 have hc5 := hD.call d k s ([.row b1 30 [.int .i64 e.kind, Str e.nm, Str e.loc, .int .i64 e.ord, .slice e.A1 e.es.length e.c1, .slice e.A2 e.th.length e.c2, .slice e.A3 e.el.length e.c3], .row bE 61 [.func (.func fd) #[] cd], .row bS 61 [.func (.func fd) #[] cd]] ++ F) _ hc5m hd hok
 replace hc5 := hc5.mono (fun _ _ h => Gives.perm (g' := fun r : Bool × σ => [.row b1 30 [.int .i64 e.kind, Str e.nm, Str e.loc, .int .i64 e.ord, .slice e.A1 e.es.length e.c1, .slice e.A2 e.th.length e.c2, .slice e.A3 e.el.length e.c3], .row bE 61 [.func (.func fd) #[] cd], .row bS 61 [.func (.func fd) #[] cd]] ++ (G r.2 ++ F)) (fun r => perm_mid2 [.row b1 30 [.int .i64 e.kind, Str e.nm, Str e.loc, .int .i64 e.ord, .slice e.A1 e.es.length e.c1, .slice e.A2 e.th.length e.c2, .slice e.A3 e.el.length e.c3], .row bE 61 [.func (.func fd) #[] cd], .row bS 61 [.func (.func fd) #[] cd]] (G r.2) F) h)
 refine stepCallIn hK 8 _ (by kernel_rfl) (run_callE hD.enters rfl rfl (by kernel_rfl)) (hc5) ?_
 rintro ⟨r2, q3⟩ a w hR4 hK hM
 replace hM := hM.to (.row b1 30 [.int .i64 e.kind, Str e.nm, Str e.loc, .int .i64 e.ord, .slice e.A1 e.es.length e.c1, .slice e.A2 e.th.length e.c2, .slice e.A3 e.el.length e.c3] :: .row bE 61 [.func (.func fd) #[] cd] :: .row bS 61 [.func (.func fd) #[] cd] :: (G q3 ++ F)) (by kernel_rfl)
 rcases Bool.eq_false_or_eq_true r2 with h7 | h7
 ·refine stepP hK 5 (.bool true) (by kernel_rfl) (okBool (b := r2) (by kernel_rfl) h7) fun a hK => ?_
  refine region_done hK [(5, .bool true), (0, .agg #[.int .i64 e.kind, Str e.nm, Str e.loc, .int .i64 e.ord, .slice e.A1 e.es.length e.c1, .slice e.A2 e.th.length e.c2, .slice e.A3 e.el.length e.c3]), (1, .int .i64 ((d : Nat) : Int)), (2, .pointer (some ⟨bS, 0, none⟩))] ⟨rfl, rfl, rfl, rfl, trivial⟩ fun a hK => ?_
  refine wp_ret ?_
  exact ret_t hK rfl (u := (.bool true)) rfl (⟨(true, q3), rfl, hM.drop 1, pair_of hR4 h7⟩)
 ·refine stepP hK 5 (.bool false) (by kernel_rfl) (okBool (b := r2) (by kernel_rfl) h7) fun a hK => ?_
  refine region_done hK [(5, .bool false), (0, .agg #[.int .i64 e.kind, Str e.nm, Str e.loc, .int .i64 e.ord, .slice e.A1 e.es.length e.c1, .slice e.A2 e.th.length e.c2, .slice e.A3 e.el.length e.c3]), (1, .int .i64 ((d : Nat) : Int)), (2, .pointer (some ⟨bS, 0, none⟩))] ⟨rfl, rfl, rfl, rfl, trivial⟩ fun a hK => ?_
  refine wp_ret ?_
  exact ret_t hK rfl (u := (.bool false)) rfl (⟨(false, q3), rfl, hM.drop 1, pair_of hR4 h7⟩)
set_option maxRecDepth 100000 in
set_option maxHeartbeats 4000000 in
theorem any_expr1 {σ : Type} {w0 : World} {G : σ → List It} {ok : Nat → σ → Prop} {h : Nat → σ → Bool × σ} {fd : FuncId} {cd : Array Value} (hD : StepD w0 G ok h fd cd) (bE : Nat) : StepE w0 (fun s => .row bE 61 [.func (.func fd) #[] cd] :: G s) ok (fun _ d s => h d s) 70 #[.pointer (some ⟨bE, 0, none⟩)] := by
 refine ⟨en_ast_anyExpr_1, ?_, fun _ d k s h1 h2 => hD.ok d k s h1 h2⟩
 intro e d k s F w1 hM0 he hs hd hok
 replace hM0 : Mem w0 w1 ((.row bE 61 [.func (.func fd) #[] cd] :: (G s ++ F))) := hM0
 refine calls_KM (args := [.agg #[.int .i64 e.op, .int .i64 e.num, Str e.nm, .slice e.A e.ks.length e.c], .int .i64 ((d : Nat) : Int), .pointer (some ⟨bE, 0, none⟩)]) (n := 9) (env := [(0, .agg #[.int .i64 e.op, .int .i64 e.num, Str e.nm, .slice e.A e.ks.length e.c]), (1, .int .i64 ((d : Nat) : Int)), (2, .pointer (some ⟨bE, 0, none⟩))]) Tryd.func70 rfl rfl rfl ⟨rfl, rfl, rfl, trivial⟩ hM0 fun a w hK hM => ?_
 refine wp_seq ?_
 refine region_go (lst := [0, 1]) (by kernel_rfl) ?_
 refine stepAlloc hK hM 3 36 [.int .i64 e.op, .int .i64 e.num, Str e.nm, .slice e.A e.ks.length e.c] (fun b => .pointer (some ⟨b, 0, none⟩)) (by kernel_rfl) (by kernel_rfl) fun b1 a w hK hM => ?_
 refine stepP hK 5 (.bool false) (by kernel_rfl) (by kernel_rfl) fun a hK => ?_
 refine region_done hK [(5, .bool false), (0, .agg #[.int .i64 e.op, .int .i64 e.num, Str e.nm, .slice e.A e.ks.length e.c]), (1, .int .i64 ((d : Nat) : Int)), (2, .pointer (some ⟨bE, 0, none⟩))] ⟨rfl, rfl, rfl, rfl, trivial⟩ fun a hK => ?_
 refine wp_seq ?_
 refine region_go (lst := [0, 1, 2, 3]) (by kernel_rfl) ?_
 refine stepLoad hK 6 (.func (.func fd) #[] cd) (by kernel_rfl) rfl rfl ((hM.row 1 rfl).cells 0 1) (by kernel_rfl) fun a hK => ?_
 refine stepM hK 7 1 (by kernel_rfl) (.inl rfl) rfl fun a hK => ?_
 have hc5m : Mem w0 _ (G s ++ ([.row b1 36 [.int .i64 e.op, .int .i64 e.num, Str e.nm, .slice e.A e.ks.length e.c], .row bE 61 [.func (.func fd) #[] cd]] ++ F)) := (hM.perm (perm_mid [.row b1 36 [.int .i64 e.op, .int .i64 e.num, Str e.nm, .slice e.A e.ks.length e.c], .row bE 61 [.func (.func fd) #[] cd]] (G s) F))
 have hc5 := hD.call d k s ([.row b1 36 [.int .i64 e.op, .int .i64 e.num, Str e.nm, .slice e.A e.ks.length e.c], .row bE 61 [.func (.func fd) #[] cd]] ++ F) _ hc5m hd hok
 replace hc5 := hc5.mono (fun _ _ h => Gives.perm (g' := fun r : Bool × σ => [.row b1 36 [.int .i64 e.op, .int .i64 e.num, Str e.nm, .slice e.A e.ks.length e.c], .row bE 61 [.func (.func fd) #[] cd]] ++ (G r.2 ++ F)) (fun r => perm_mid2 [.row b1 36 [.int .i64 e.op, .int .i64 e.num, Str e.nm, .slice e.A e.ks.length e.c], .row bE 61 [.func (.func fd) #[] cd]] (G r.2) F) h)
 refine stepCallIn hK 8 _ (by kernel_rfl) (run_callE hD.enters rfl rfl (by kernel_rfl)) (hc5) ?_
 rintro ⟨r2, q3⟩ a w hR4 hK hM
 replace hM := hM.to (.row b1 36 [.int .i64 e.op, .int .i64 e.num, Str e.nm, .slice e.A e.ks.length e.c] :: .row bE 61 [.func (.func fd) #[] cd] :: (G q3 ++ F)) (by kernel_rfl)
 rcases Bool.eq_false_or_eq_true r2 with h7 | h7
 ·refine stepP hK 5 (.bool true) (by kernel_rfl) (okBool (b := r2) (by kernel_rfl) h7) fun a hK => ?_
  refine region_done hK [(5, .bool true), (0, .agg #[.int .i64 e.op, .int .i64 e.num, Str e.nm, .slice e.A e.ks.length e.c]), (1, .int .i64 ((d : Nat) : Int)), (2, .pointer (some ⟨bE, 0, none⟩))] ⟨rfl, rfl, rfl, rfl, trivial⟩ fun a hK => ?_
  refine wp_ret ?_
  exact ret_t hK rfl (u := (.bool true)) rfl (⟨(true, q3), rfl, hM.drop 1, pair_of hR4 h7⟩)
 ·refine stepP hK 5 (.bool false) (by kernel_rfl) (okBool (b := r2) (by kernel_rfl) h7) fun a hK => ?_
  refine region_done hK [(5, .bool false), (0, .agg #[.int .i64 e.op, .int .i64 e.num, Str e.nm, .slice e.A e.ks.length e.c]), (1, .int .i64 ((d : Nat) : Int)), (2, .pointer (some ⟨bE, 0, none⟩))] ⟨rfl, rfl, rfl, rfl, trivial⟩ fun a hK => ?_
  refine wp_ret ?_
  exact ret_t hK rfl (u := (.bool false)) rfl (⟨(false, q3), rfl, hM.drop 1, pair_of hR4 h7⟩)
set_option maxRecDepth 100000 in
set_option maxHeartbeats 4000000 in
theorem ast_anyExpr (fd : FuncId) (cd : Array Value) (w0 : World) : Calls Tryd.prog 35 #[.func (.func fd) #[] cd] w0 (Gives w0 (fun b : Nat => .func (.func 70) #[] #[.pointer (some ⟨b, 0, none⟩)]) (fun b => [.row b 61 [.func (.func fd) #[] cd]]) fun _ => True) := by
 refine calls_K (args := [.func (.func fd) #[] cd]) (n := 4) (env := [(0, .func (.func fd) #[] cd)]) Tryd.func35 rfl rfl rfl ⟨rfl, trivial⟩ fun a w hK hM => ?_
 refine wp_seq ?_
 refine region_go (lst := [0, 1]) (by kernel_rfl) ?_
 refine stepAlloc hK hM 1 61 [.func (.func fd) #[] cd] (fun b => .pointer (some ⟨b, 0, none⟩)) (by kernel_rfl) (by kernel_rfl) fun b1 a w hK hM => ?_
 refine stepP hK 2 (.nilFunc) (by kernel_rfl) (by kernel_rfl) fun a hK => ?_
 refine region_done hK [(2, .nilFunc), (1, .pointer (some ⟨b1, 0, none⟩)), (0, .func (.func fd) #[] cd)] ⟨rfl, rfl, rfl, trivial⟩ fun a hK => ?_
 refine wp_seq ?_
 refine region_go (lst := [0, 1]) (by kernel_rfl) ?_
 refine stepP hK 3 (.func (.func 70) #[] #[.pointer (some ⟨b1, 0, none⟩)]) (by kernel_rfl) (by kernel_rfl) fun a hK => ?_
 refine stepM hK 2 3 (by kernel_rfl) (.inr rfl) rfl fun a hK => ?_
 refine region_done hK [(2, .func (.func 70) #[] #[.pointer (some ⟨b1, 0, none⟩)]), (1, .pointer (some ⟨b1, 0, none⟩)), (0, .func (.func fd) #[] cd)] ⟨rfl, rfl, rfl, trivial⟩ fun a hK => ?_
 refine wp_ret ?_
 exact ret_t hK rfl (u := (.func (.func 70) #[] #[.pointer (some ⟨b1, 0, none⟩)])) rfl (⟨b1, rfl, hM, trivial⟩)
set_option maxRecDepth 100000 in
set_option maxHeartbeats 4000000 in
theorem ast_anyStmt (fd : FuncId) (cd : Array Value) (w0 : World) : Calls Tryd.prog 36 #[.func (.func fd) #[] cd] w0 (Gives w0 (fun b : Nat => .func (.func 71) #[] #[.pointer (some ⟨b, 0, none⟩)]) (fun b => [.row b 61 [.func (.func fd) #[] cd]]) fun _ => True) := by
 refine calls_K (args := [.func (.func fd) #[] cd]) (n := 4) (env := [(0, .func (.func fd) #[] cd)]) Tryd.func36 rfl rfl rfl ⟨rfl, trivial⟩ fun a w hK hM => ?_
 refine wp_seq ?_
 refine region_go (lst := [0, 1]) (by kernel_rfl) ?_
 refine stepAlloc hK hM 1 61 [.func (.func fd) #[] cd] (fun b => .pointer (some ⟨b, 0, none⟩)) (by kernel_rfl) (by kernel_rfl) fun b1 a w hK hM => ?_
 refine stepP hK 2 (.nilFunc) (by kernel_rfl) (by kernel_rfl) fun a hK => ?_
 refine region_done hK [(2, .nilFunc), (1, .pointer (some ⟨b1, 0, none⟩)), (0, .func (.func fd) #[] cd)] ⟨rfl, rfl, rfl, trivial⟩ fun a hK => ?_
 refine wp_seq ?_
 refine region_go (lst := [0, 1]) (by kernel_rfl) ?_
 refine stepP hK 3 (.func (.func 71) #[] #[.pointer (some ⟨b1, 0, none⟩)]) (by kernel_rfl) (by kernel_rfl) fun a hK => ?_
 refine stepM hK 2 3 (by kernel_rfl) (.inr rfl) rfl fun a hK => ?_
 refine region_done hK [(2, .func (.func 71) #[] #[.pointer (some ⟨b1, 0, none⟩)]), (1, .pointer (some ⟨b1, 0, none⟩)), (0, .func (.func fd) #[] cd)] ⟨rfl, rfl, rfl, trivial⟩ fun a hK => ?_
 refine wp_ret ?_
 exact ret_t hK rfl (u := (.func (.func 71) #[] #[.pointer (some ⟨b1, 0, none⟩)])) rfl (⟨b1, rfl, hM, trivial⟩)
set_option maxRecDepth 100000 in
set_option maxHeartbeats 4000000 in
theorem step_size (w0 : World) (bc : Nat) : StepD w0 (fun n : Nat => [.row bc 3 [.int .i64 ((n : Nat) : Int)]]) okN sizeD 44 #[.pointer (some ⟨bc, 0, none⟩)] := by
 refine ⟨en_ast_Size_1, ?_, fun d k s h1 _ => by unfold okN sizeD at *; simp only; omega⟩
 intro d k s F w1 hM0 hd hok
 replace hM0 : Mem w0 w1 ((.row bc 3 [.int .i64 ((s : Nat) : Int)] :: F)) := hM0
 refine calls_KM (args := [.int .i64 ((d : Nat) : Int), .pointer (some ⟨bc, 0, none⟩)]) (n := 6) (env := [(0, .int .i64 ((d : Nat) : Int)), (1, .pointer (some ⟨bc, 0, none⟩))]) Tryd.func44 rfl rfl rfl ⟨rfl, rfl, trivial⟩ hM0 fun a w hK hM => ?_
 refine wp_seq ?_
 refine region_go (lst := [0]) (by kernel_rfl) ?_
 refine stepP hK 3 (.bool false) (by kernel_rfl) (by kernel_rfl) fun a hK => ?_
 refine region_done hK [(3, .bool false), (1, .pointer (some ⟨bc, 0, none⟩))] ⟨rfl, rfl, trivial⟩ fun a hK => ?_
 refine wp_seq ?_
 refine region_go (lst := [0, 1, 2]) (by kernel_rfl) ?_
 refine stepLoad hK 4 (.int .i64 ((s : Nat) : Int)) (by kernel_rfl) rfl rfl ((hM.row 0 rfl).cells 0 1) (by kernel_rfl) fun a hK => ?_
 refine stepP hK 5 (.int .i64 (((s + 1) : Nat) : Int)) (by kernel_rfl) (run_addN (i := s) (j := 1) rfl rfl rfl (by unfold okN at hok; omega)) fun a hK => ?_
 refine stepStore hK hM 0 [.int .i64 (((s + 1) : Nat) : Int)] (by kernel_rfl) rfl rfl rfl rfl (by kernel_rfl) fun w hM => ?_
 replace hM := hM.to (.row bc 3 [.int .i64 (((s + 1) : Nat) : Int)] :: F) (by kernel_rfl)
 refine region_done hK [(3, .bool false), (1, .pointer (some ⟨bc, 0, none⟩))] ⟨rfl, rfl, trivial⟩ fun a hK => ?_
 refine wp_seq ?_
 refine region_go (lst := [0]) (by kernel_rfl) ?_
 refine stepP hK 3 (.bool true) (by kernel_rfl) (by kernel_rfl) fun a hK => ?_
 refine region_done hK [(3, .bool true), (1, .pointer (some ⟨bc, 0, none⟩))] ⟨rfl, rfl, trivial⟩ fun a hK => ?_
 refine wp_ret ?_
 exact ret_t hK rfl (u := (.bool true)) rfl (⟨(true, s + 1), rfl, hM, rfl⟩)
set_option maxRecDepth 100000 in
set_option maxHeartbeats 4000000 in
theorem step_deep (w0 : World) (bc : Nat) : StepD w0 (fun n : Nat => [.row bc 3 [.int .i64 ((n : Nat) : Int)]]) okU deepD 34 #[.pointer (some ⟨bc, 0, none⟩)] := by
 refine ⟨en_ast_Deep_1, ?_, fun _ _ _ _ _ => trivial⟩
 intro d k s F w1 hM0 hd hok
 replace hM0 : Mem w0 w1 ((.row bc 3 [.int .i64 ((s : Nat) : Int)] :: F)) := hM0
 refine calls_KM (args := [.int .i64 ((d : Nat) : Int), .pointer (some ⟨bc, 0, none⟩)]) (n := 7) (env := [(0, .int .i64 ((d : Nat) : Int)), (1, .pointer (some ⟨bc, 0, none⟩))]) Tryd.func34 rfl rfl rfl ⟨rfl, rfl, trivial⟩ hM0 fun a w hK hM => ?_
 refine wp_seq ?_
 refine region_go (lst := [0]) (by kernel_rfl) ?_
 refine stepP hK 3 (.bool false) (by kernel_rfl) (by kernel_rfl) fun a hK => ?_
 refine region_done hK [(3, .bool false), (0, .int .i64 ((d : Nat) : Int)), (1, .pointer (some ⟨bc, 0, none⟩))] ⟨rfl, rfl, rfl, trivial⟩ fun a hK => ?_
 refine wp_seq ?_
 refine region_go (lst := [0, 1, 2, 3]) (by kernel_rfl) ?_
 refine stepLoad hK 4 (.int .i64 ((s : Nat) : Int)) (by kernel_rfl) rfl rfl ((hM.row 0 rfl).cells 0 1) (by kernel_rfl) fun a hK => ?_
 refine stepM hK 5 0 (by kernel_rfl) (.inl rfl) rfl fun a hK => ?_
 refine stepP hK 6 (.int .i64 (((max s d) : Nat) : Int)) (by kernel_rfl) (okVal (run_maxI rfl rfl rfl) (congrArg (Value.int .i64) (by omega))) fun a hK => ?_
 refine stepStore hK hM 0 [.int .i64 (((max s d) : Nat) : Int)] (by kernel_rfl) rfl rfl rfl rfl (by kernel_rfl) fun w hM => ?_
 replace hM := hM.to (.row bc 3 [.int .i64 (((max s d) : Nat) : Int)] :: F) (by kernel_rfl)
 refine region_done hK [(3, .bool false), (0, .int .i64 ((d : Nat) : Int)), (1, .pointer (some ⟨bc, 0, none⟩))] ⟨rfl, rfl, rfl, trivial⟩ fun a hK => ?_
 refine wp_seq ?_
 refine region_go (lst := [0]) (by kernel_rfl) ?_
 refine stepP hK 3 (.bool true) (by kernel_rfl) (by kernel_rfl) fun a hK => ?_
 refine region_done hK [(3, .bool true), (0, .int .i64 ((d : Nat) : Int)), (1, .pointer (some ⟨bc, 0, none⟩))] ⟨rfl, rfl, rfl, trivial⟩ fun a hK => ?_
 refine wp_ret ?_
 exact ret_t hK rfl (u := (.bool true)) rfl (⟨(true, max s d), rfl, hM, rfl⟩)
set_option maxRecDepth 100000 in
set_option maxHeartbeats 4000000 in
theorem step_lim (w0 : World) (bc : Nat) : StepD w0 (fun n : Nat => [.row bc 3 [.int .i64 ((n : Nat) : Int)]]) okN limD 65 #[.pointer (some ⟨bc, 0, none⟩)] := by
 refine ⟨en_ast_limits_1, ?_, fun d k s h1 _ => by unfold okN limD at *; simp only; omega⟩
 intro d k s F w1 hM0 hd hok
 replace hM0 : Mem w0 w1 ((.row bc 3 [.int .i64 ((s : Nat) : Int)] :: F)) := hM0
 refine calls_KM (args := [.int .i64 ((d : Nat) : Int), .pointer (some ⟨bc, 0, none⟩)]) (n := 12) (env := [(0, .int .i64 ((d : Nat) : Int)), (1, .pointer (some ⟨bc, 0, none⟩))]) Tryd.func65 rfl rfl rfl ⟨rfl, rfl, trivial⟩ hM0 fun a w hK hM => ?_
 refine wp_seq ?_
 refine region_go (lst := [0]) (by kernel_rfl) ?_
 refine stepP hK 3 (.bool false) (by kernel_rfl) (by kernel_rfl) fun a hK => ?_
 refine region_done hK [(3, .bool false), (0, .int .i64 ((d : Nat) : Int)), (1, .pointer (some ⟨bc, 0, none⟩))] ⟨rfl, rfl, rfl, trivial⟩ fun a hK => ?_
 refine wp_seq ?_
 refine region_go (lst := [0, 1, 2]) (by kernel_rfl) ?_
 refine stepLoad hK 4 (.int .i64 ((s : Nat) : Int)) (by kernel_rfl) rfl rfl ((hM.row 0 rfl).cells 0 1) (by kernel_rfl) fun a hK => ?_
 refine stepP hK 5 (.int .i64 (((s + 1) : Nat) : Int)) (by kernel_rfl) (run_addN (i := s) (j := 1) rfl rfl rfl (by unfold okN at hok; omega)) fun a hK => ?_
 refine stepStore hK hM 0 [.int .i64 (((s + 1) : Nat) : Int)] (by kernel_rfl) rfl rfl rfl rfl (by kernel_rfl) fun w hM => ?_
 replace hM := hM.to (.row bc 3 [.int .i64 (((s + 1) : Nat) : Int)] :: F) (by kernel_rfl)
 refine region_done hK [(3, .bool false), (0, .int .i64 ((d : Nat) : Int)), (1, .pointer (some ⟨bc, 0, none⟩))] ⟨rfl, rfl, rfl, trivial⟩ fun a hK => ?_
 refine wp_seq ?_
 refine region_go (lst := [0, 1, 2, 3, 4, 5, 6]) (by kernel_rfl) ?_
 refine stepLoad hK 6 (.int .i64 (((s + 1) : Nat) : Int)) (by kernel_rfl) rfl rfl ((hM.row 0 rfl).cells 0 1) (by kernel_rfl) fun a hK => ?_
 by_cases h1 : ((((s + 1) : Nat) : Int) : Int) ≤ 2000
 ·refine stepP hK 7 (.bool true) (by kernel_rfl) (okBool (b := (decide (((((s + 1) : Nat) : Int) : Int) ≤ 2000))) (by kernel_rfl) (decide_eq_true h1)) fun a hK => ?_
  refine stepM hK 8 7 (by kernel_rfl) (.inl rfl) rfl fun a hK => ?_
  refine stepM hK 9 0 (by kernel_rfl) (.inl rfl) rfl fun a hK => ?_
  by_cases h2 : (((d : Nat) : Int) : Int) ≤ 32
  ·refine stepP hK 10 (.bool true) (by kernel_rfl) (okBool (b := (decide ((((d : Nat) : Int) : Int) ≤ 32))) (by kernel_rfl) (decide_eq_true h2)) fun a hK => ?_
   refine stepP hK 11 (.bool true) (by kernel_rfl) (by kernel_rfl) fun a hK => ?_
   refine stepM hK 3 11 (by kernel_rfl) (.inr rfl) rfl fun a hK => ?_
   refine region_done hK [(3, .bool true), (0, .int .i64 ((d : Nat) : Int)), (1, .pointer (some ⟨bc, 0, none⟩))] ⟨rfl, rfl, rfl, trivial⟩ fun a hK => ?_
   refine wp_ret ?_
   exact ret_t hK rfl (u := (.bool true)) rfl (⟨(true, s + 1), rfl, hM, by unfold limD; rw [(decide_eq_true h1), (decide_eq_true h2)]; rfl⟩)
  ·refine stepP hK 10 (.bool false) (by kernel_rfl) (okBool (b := (decide ((((d : Nat) : Int) : Int) ≤ 32))) (by kernel_rfl) (decide_eq_false h2)) fun a hK => ?_
   refine stepP hK 11 (.bool false) (by kernel_rfl) (by kernel_rfl) fun a hK => ?_
   refine stepM hK 3 11 (by kernel_rfl) (.inr rfl) rfl fun a hK => ?_
   refine region_done hK [(3, .bool false), (0, .int .i64 ((d : Nat) : Int)), (1, .pointer (some ⟨bc, 0, none⟩))] ⟨rfl, rfl, rfl, trivial⟩ fun a hK => ?_
   refine wp_ret ?_
   exact ret_t hK rfl (u := (.bool false)) rfl (⟨(false, s + 1), rfl, hM, by unfold limD; rw [(decide_eq_true h1), (decide_eq_false h2)]; rfl⟩)
 ·refine stepP hK 7 (.bool false) (by kernel_rfl) (okBool (b := (decide (((((s + 1) : Nat) : Int) : Int) ≤ 2000))) (by kernel_rfl) (decide_eq_false h1)) fun a hK => ?_
  refine stepM hK 8 7 (by kernel_rfl) (.inl rfl) rfl fun a hK => ?_
  refine stepN hK 9 (by kernel_rfl) fun a hK => ?_
  refine stepN hK 10 (by kernel_rfl) fun a hK => ?_
  refine stepP hK 11 (.bool false) (by kernel_rfl) (by kernel_rfl) fun a hK => ?_
  refine stepM hK 3 11 (by kernel_rfl) (.inr rfl) rfl fun a hK => ?_
  refine region_done hK [(3, .bool false), (0, .int .i64 ((d : Nat) : Int)), (1, .pointer (some ⟨bc, 0, none⟩))] ⟨rfl, rfl, rfl, trivial⟩ fun a hK => ?_
  refine wp_ret ?_
  exact ret_t hK rfl (u := (.bool false)) rfl (⟨(false, s + 1), rfl, hM, by unfold limD; rw [(decide_eq_false h1)]; rfl⟩)
set_option maxRecDepth 100000 in
set_option maxHeartbeats 4000000 in
theorem ast_limits  (w0 : World) : Calls Tryd.prog 28 #[] w0 (Gives w0 (fun x : Nat × Nat × Nat => .tuple #[.func (.func 70) #[] #[.pointer (some ⟨x.1, 0, none⟩)], .func (.func 71) #[] #[.pointer (some ⟨x.2.1, 0, none⟩)]]) (fun x => [.row x.1 61 [.func (.func 65) #[] #[.pointer (some ⟨x.2.2, 0, none⟩)]], .row x.2.1 61 [.func (.func 65) #[] #[.pointer (some ⟨x.2.2, 0, none⟩)]], .row x.2.2 3 [.int .i64 ((0 : Nat) : Int)]]) fun _ => True) := by
 refine calls_K (args := []) (n := 9) (env := []) Tryd.func28 rfl rfl rfl trivial fun a w hK hM => ?_
 refine wp_seq ?_
 refine region_go (lst := [0, 1]) (by kernel_rfl) ?_
 refine stepP hK 0 (.nilFunc) (by kernel_rfl) (by kernel_rfl) fun a hK => ?_
 refine stepP hK 1 (.nilFunc) (by kernel_rfl) (by kernel_rfl) fun a hK => ?_
 refine region_done hK [(1, .nilFunc), (0, .nilFunc)] ⟨rfl, rfl, trivial⟩ fun a hK => ?_
 refine wp_seq ?_
 refine region_go (lst := [0, 1]) (by kernel_rfl) ?_
 refine stepAlloc hK hM 2 3 [.int .i64 0] (fun b => .pointer (some ⟨b, 0, none⟩)) (by kernel_rfl) (by kernel_rfl) fun b1 a w hK hM => ?_
 refine stepStore hK hM 0 [.int .i64 0] (by kernel_rfl) rfl rfl rfl rfl (by kernel_rfl) fun w hM => ?_
 replace hM := hM.to [.row b1 3 [.int .i64 0]] (by kernel_rfl)
 refine region_done hK [(2, .pointer (some ⟨b1, 0, none⟩)), (1, .nilFunc), (0, .nilFunc)] ⟨rfl, rfl, rfl, trivial⟩ fun a hK => ?_
 refine wp_seq ?_
 refine region_go (lst := [0, 1]) (by kernel_rfl) ?_
 refine stepP hK 4 (.func (.func 65) #[] #[.pointer (some ⟨b1, 0, none⟩)]) (by kernel_rfl) (by kernel_rfl) fun a hK => ?_
 refine stepM hK 3 4 (by kernel_rfl) (.inr rfl) rfl fun a hK => ?_
 refine region_done hK [(3, .func (.func 65) #[] #[.pointer (some ⟨b1, 0, none⟩)]), (2, .pointer (some ⟨b1, 0, none⟩)), (1, .nilFunc), (0, .nilFunc)] ⟨rfl, rfl, rfl, rfl, trivial⟩ fun a hK => ?_
 refine wp_seq ?_
 refine region_go (lst := [0, 1, 2, 3, 4, 5]) (by kernel_rfl) ?_
 refine stepM hK 5 3 (by kernel_rfl) (.inl rfl) rfl fun a hK => ?_
 refine stepCall hK hM 6 #[.func (.func 65) #[] #[.pointer (some ⟨b1, 0, none⟩)]] (by kernel_rfl) (run_callE en_ast_anyExpr rfl rfl (by kernel_rfl)) (ast_anyExpr 65 #[.pointer (some ⟨b1, 0, none⟩)] _) ?_
 rintro b2 a w - hK hM
 refine stepM hK 7 3 (by kernel_rfl) (.inl rfl) rfl fun a hK => ?_
 refine stepCall hK hM 8 #[.func (.func 65) #[] #[.pointer (some ⟨b1, 0, none⟩)]] (by kernel_rfl) (run_callE en_ast_anyStmt rfl rfl (by kernel_rfl)) (ast_anyStmt 65 #[.pointer (some ⟨b1, 0, none⟩)] _) ?_
 rintro b4 a w - hK hM
 refine stepM hK 0 6 (by kernel_rfl) (.inr rfl) rfl fun a hK => ?_
 refine stepM hK 1 8 (by kernel_rfl) (.inr rfl) rfl fun a hK => ?_
 refine region_done hK [(1, .func (.func 71) #[] #[.pointer (some ⟨b4, 0, none⟩)]), (0, .func (.func 70) #[] #[.pointer (some ⟨b2, 0, none⟩)]), (3, .func (.func 65) #[] #[.pointer (some ⟨b1, 0, none⟩)]), (2, .pointer (some ⟨b1, 0, none⟩))] ⟨rfl, rfl, rfl, rfl, trivial⟩ fun a hK => ?_
 refine wp_ret ?_
 exact ret_tt hK rfl (u := (.func (.func 70) #[] #[.pointer (some ⟨b2, 0, none⟩)])) (v := (.func (.func 71) #[] #[.pointer (some ⟨b4, 0, none⟩)])) rfl rfl (⟨(b2, b4, b1), rfl, (hM.order [[.row b4 61 [.func (.func 65) #[] #[.pointer (some ⟨b1, 0, none⟩)]]], [.row b2 61 [.func (.func 65) #[] #[.pointer (some ⟨b1, 0, none⟩)]]], [.row b1 3 [.int .i64 0]]] [1, 0, 2] 3 rfl (by simp) (by decide) ([.row b2 61 [.func (.func 65) #[] #[.pointer (some ⟨b1, 0, none⟩)]], .row b4 61 [.func (.func 65) #[] #[.pointer (some ⟨b1, 0, none⟩)]], .row b1 3 [.int .i64 0]]) (by simp)), trivial⟩)
set_option maxRecDepth 100000 in
set_option maxHeartbeats 4000000 in
theorem ast_Size (p : Pg) (w0 : World) (hp : PgAt w0 p) (hsz : thsSz p.ts ≤ 100000) (hsh : pgSh p = true) : Calls Tryd.prog 16 #[.agg #[.slice p.A1 p.ds.length p.c1, .slice p.A2 p.ts.length p.c2]] w0 (Ret w0 (.int .i64 ((thsSz p.ts : Nat) : Int))) := by
 refine calls_K (args := [.agg #[.slice p.A1 p.ds.length p.c1, .slice p.A2 p.ts.length p.c2]]) (n := 13) (env := [(0, .agg #[.slice p.A1 p.ds.length p.c1, .slice p.A2 p.ts.length p.c2])]) Tryd.func16 rfl rfl rfl ⟨rfl, trivial⟩ fun a w hK hM => ?_
 refine wp_seq ?_
 refine region_go (lst := [0, 1]) (by kernel_rfl) ?_
 refine stepAlloc hK hM 1 25 [.slice p.A1 p.ds.length p.c1, .slice p.A2 p.ts.length p.c2] (fun b => .pointer (some ⟨b, 0, none⟩)) (by kernel_rfl) (by kernel_rfl) fun b1 a w hK hM => ?_
 refine stepP hK 2 (.int .i64 0) (by kernel_rfl) (by kernel_rfl) fun a hK => ?_
 refine region_done hK [(2, .int .i64 0), (1, .pointer (some ⟨b1, 0, none⟩)), (0, .agg #[.slice p.A1 p.ds.length p.c1, .slice p.A2 p.ts.length p.c2])] ⟨rfl, rfl, rfl, trivial⟩ fun a hK => ?_
 refine wp_seq ?_
 refine region_go (lst := [0, 1]) (by kernel_rfl) ?_
 refine stepAlloc hK hM 3 3 [.int .i64 0] (fun b => .pointer (some ⟨b, 0, none⟩)) (by kernel_rfl) (by kernel_rfl) fun b2 a w hK hM => ?_
 refine stepStore hK hM 0 [.int .i64 0] (by kernel_rfl) rfl rfl rfl rfl (by kernel_rfl) fun w hM => ?_
 replace hM := hM.to [.row b2 3 [.int .i64 0], .row b1 25 [.slice p.A1 p.ds.length p.c1, .slice p.A2 p.ts.length p.c2]] (by kernel_rfl)
 refine region_done hK [(3, .pointer (some ⟨b2, 0, none⟩)), (2, .int .i64 0), (1, .pointer (some ⟨b1, 0, none⟩)), (0, .agg #[.slice p.A1 p.ds.length p.c1, .slice p.A2 p.ts.length p.c2])] ⟨rfl, rfl, rfl, rfl, trivial⟩ fun a hK => ?_
 refine wp_seq ?_
 refine region_go (lst := [0, 1]) (by kernel_rfl) ?_
 refine stepP hK 5 (.func (.func 44) #[] #[.pointer (some ⟨b2, 0, none⟩)]) (by kernel_rfl) (by kernel_rfl) fun a hK => ?_
 refine stepM hK 4 5 (by kernel_rfl) (.inr rfl) rfl fun a hK => ?_
 refine region_done hK [(4, .func (.func 44) #[] #[.pointer (some ⟨b2, 0, none⟩)]), (3, .pointer (some ⟨b2, 0, none⟩)), (2, .int .i64 0), (1, .pointer (some ⟨b1, 0, none⟩)), (0, .agg #[.slice p.A1 p.ds.length p.c1, .slice p.A2 p.ts.length p.c2])] ⟨rfl, rfl, rfl, rfl, rfl, trivial⟩ fun a hK => ?_
 refine wp_seq ?_
 refine wp_cut (fun a w => ∃ (b3_2 : Nat), ∃ (b3_4 : Nat), ∃ (q3_5 : Nat), ∃ (r3_5 : Bool), Knows a 13 [(4, .func (.func 44) #[] #[.pointer (some ⟨b2, 0, none⟩)]), (3, .pointer (some ⟨b2, 0, none⟩)), (2, .int .i64 0), (1, .pointer (some ⟨b1, 0, none⟩)), (0, .agg #[.slice p.A1 p.ds.length p.c1, .slice p.A2 p.ts.length p.c2])] ∧ Mem w0 w [.row b3_2 61 [.func (.func 44) #[] #[.pointer (some ⟨b2, 0, none⟩)]], .row b3_4 61 [.func (.func 44) #[] #[.pointer (some ⟨b2, 0, none⟩)]], .row b2 3 [.int .i64 ((q3_5 : Nat) : Int)], .row b1 25 [.slice p.A1 p.ds.length p.c1, .slice p.A2 p.ts.length p.c2]] ∧ (r3_5, q3_5) = thsWk (fun _ d s => sizeD d s) (fun _ d s => sizeD d s) p.ts 0) ?_ ?_
 ·refine region_tree hM (by kernel_rfl) 6 (by kernel_rfl) #[false, false, false, false, false, false] (by kernel_rfl) ?_
  clear hM; intro w hM
  refine treeP hK 1 7 (.func (.func 44) #[] #[.pointer (some ⟨b2, 0, none⟩)]) (by kernel_rfl) (by kernel_rfl) (by kernel_rfl) (fun w => (by kernel_rfl)) #[false, true, false, false, false, false] (by kernel_rfl) fun a hK => ?_
  refine treeP hK 3 9 (.func (.func 44) #[] #[.pointer (some ⟨b2, 0, none⟩)]) (by kernel_rfl) (by kernel_rfl) (by kernel_rfl) (fun w => (by kernel_rfl)) #[false, true, false, true, false, false] (by kernel_rfl) fun a hK => ?_
  refine treeM [0, 2] (by kernel_rfl) rfl ⟨?_, ?_, trivial⟩
  ·refine stepLoad hK 6 (.agg #[.slice p.A1 p.ds.length p.c1, .slice p.A2 p.ts.length p.c2]) (by kernel_rfl) rfl rfl ((hM.row 1 rfl).cells 0 2) (by kernel_rfl) fun a hK => ?_
   refine tree_next #[true, true, false, true, false, false] (by kernel_rfl) ?_
   refine treeM [2] (by kernel_rfl) rfl ⟨?_, trivial⟩
   refine stepCall hK hM 8 #[.func (.func 44) #[] #[.pointer (some ⟨b2, 0, none⟩)]] (by kernel_rfl) (run_callE en_ast_anyExpr rfl rfl (by kernel_rfl)) (ast_anyExpr 44 #[.pointer (some ⟨b2, 0, none⟩)] _) ?_
   rintro b3_2 a w - hK hM
   refine tree_next #[true, true, true, true, false, false] (by kernel_rfl) ?_
   refine treeM [4] (by kernel_rfl) rfl ⟨?_, trivial⟩
   refine stepCall hK hM 10 #[.func (.func 44) #[] #[.pointer (some ⟨b2, 0, none⟩)]] (by kernel_rfl) (run_callE en_ast_anyStmt rfl rfl (by kernel_rfl)) (ast_anyStmt 44 #[.pointer (some ⟨b2, 0, none⟩)] _) ?_
   rintro b3_4 a w - hK hM
   refine tree_next #[true, true, true, true, true, false] (by kernel_rfl) ?_
   refine treeM [5] (by kernel_rfl) rfl ⟨?_, trivial⟩
   have hc5m : Mem w0 _ [.row b3_2 61 [.func (.func 44) #[] #[.pointer (some ⟨b2, 0, none⟩)]], .row b3_4 61 [.func (.func 44) #[] #[.pointer (some ⟨b2, 0, none⟩)]], .row b2 3 [.int .i64 0], .row b1 25 [.slice p.A1 p.ds.length p.c1, .slice p.A2 p.ts.length p.c2]] := (hM.order [[.row b3_4 61 [.func (.func 44) #[] #[.pointer (some ⟨b2, 0, none⟩)]]], [.row b3_2 61 [.func (.func 44) #[] #[.pointer (some ⟨b2, 0, none⟩)]]], [.row b2 3 [.int .i64 0]], [.row b1 25 [.slice p.A1 p.ds.length p.c1, .slice p.A2 p.ts.length p.c2]]] [1, 0, 2, 3] 4 rfl (by simp) (by decide) ([.row b3_2 61 [.func (.func 44) #[] #[.pointer (some ⟨b2, 0, none⟩)]], .row b3_4 61 [.func (.func 44) #[] #[.pointer (some ⟨b2, 0, none⟩)]], .row b2 3 [.int .i64 0], .row b1 25 [.slice p.A1 p.ds.length p.c1, .slice p.A2 p.ts.length p.c2]]) (by simp))
   have hc5 := ast_walkThreads (any_expr2 (step_size _ b2) b3_2 b3_4) (any_stmt2 (step_size _ b2) b3_2 b3_4) p 0 0 [.row b1 25 [.slice p.A1 p.ds.length p.c1, .slice p.A2 p.ts.length p.c2]] _ (hp.on (Below.refl _ _)) (by omega) hsh hc5m (by unfold okN; omega)
   refine stepCallIn hK 11 #[.agg #[.slice p.A1 p.ds.length p.c1, .slice p.A2 p.ts.length p.c2], .func (.func 70) #[] #[.pointer (some ⟨b3_2, 0, none⟩)], .func (.func 71) #[] #[.pointer (some ⟨b3_4, 0, none⟩)]] (by kernel_rfl) (run_callE en_ast_walkThreads rfl rfl (by kernel_rfl)) (hc5) ?_
   rintro ⟨r3_5, q3_5⟩ a w ⟨hR3_5, -⟩ hK hM
   replace hM := hM.to [.row b3_2 61 [.func (.func 44) #[] #[.pointer (some ⟨b2, 0, none⟩)]], .row b3_4 61 [.func (.func 44) #[] #[.pointer (some ⟨b2, 0, none⟩)]], .row b2 3 [.int .i64 ((q3_5 : Nat) : Int)], .row b1 25 [.slice p.A1 p.ds.length p.c1, .slice p.A2 p.ts.length p.c2]] (by kernel_rfl)
   refine tree_next #[true, true, true, true, true, true] (by kernel_rfl) ?_
   exact treeE (by kernel_rfl) ⟨b3_2, b3_4, q3_5, r3_5, hK.sub ⟨rfl, rfl, rfl, rfl, rfl, trivial⟩, hM, hR3_5⟩
  ·refine stepCall hK hM 8 #[.func (.func 44) #[] #[.pointer (some ⟨b2, 0, none⟩)]] (by kernel_rfl) (run_callE en_ast_anyExpr rfl rfl (by kernel_rfl)) (ast_anyExpr 44 #[.pointer (some ⟨b2, 0, none⟩)] _) ?_
   rintro b3_2 a w - hK hM
   refine tree_next #[false, true, true, true, false, false] (by kernel_rfl) ?_
   refine treeM [0, 4] (by kernel_rfl) rfl ⟨?_, ?_, trivial⟩
   ·refine stepLoad hK 6 (.agg #[.slice p.A1 p.ds.length p.c1, .slice p.A2 p.ts.length p.c2]) (by kernel_rfl) rfl rfl ((hM.row 2 rfl).cells 0 2) (by kernel_rfl) fun a hK => ?_
    refine tree_next #[true, true, true, true, false, false] (by kernel_rfl) ?_
    refine treeM [4] (by kernel_rfl) rfl ⟨?_, trivial⟩
    refine stepCall hK hM 10 #[.func (.func 44) #[] #[.pointer (some ⟨b2, 0, none⟩)]] (by kernel_rfl) (run_callE en_ast_anyStmt rfl rfl (by kernel_rfl)) (ast_anyStmt 44 #[.pointer (some ⟨b2, 0, none⟩)] _) ?_
    rintro b3_4 a w - hK hM
    refine tree_next #[true, true, true, true, true, false] (by kernel_rfl) ?_
    refine treeM [5] (by kernel_rfl) rfl ⟨?_, trivial⟩
    have hc9m : Mem w0 _ [.row b3_2 61 [.func (.func 44) #[] #[.pointer (some ⟨b2, 0, none⟩)]], .row b3_4 61 [.func (.func 44) #[] #[.pointer (some ⟨b2, 0, none⟩)]], .row b2 3 [.int .i64 0], .row b1 25 [.slice p.A1 p.ds.length p.c1, .slice p.A2 p.ts.length p.c2]] := (hM.order [[.row b3_4 61 [.func (.func 44) #[] #[.pointer (some ⟨b2, 0, none⟩)]]], [.row b3_2 61 [.func (.func 44) #[] #[.pointer (some ⟨b2, 0, none⟩)]]], [.row b2 3 [.int .i64 0]], [.row b1 25 [.slice p.A1 p.ds.length p.c1, .slice p.A2 p.ts.length p.c2]]] [1, 0, 2, 3] 4 rfl (by simp) (by decide) ([.row b3_2 61 [.func (.func 44) #[] #[.pointer (some ⟨b2, 0, none⟩)]], .row b3_4 61 [.func (.func 44) #[] #[.pointer (some ⟨b2, 0, none⟩)]], .row b2 3 [.int .i64 0], .row b1 25 [.slice p.A1 p.ds.length p.c1, .slice p.A2 p.ts.length p.c2]]) (by simp))
    have hc9 := ast_walkThreads (any_expr2 (step_size _ b2) b3_2 b3_4) (any_stmt2 (step_size _ b2) b3_2 b3_4) p 0 0 [.row b1 25 [.slice p.A1 p.ds.length p.c1, .slice p.A2 p.ts.length p.c2]] _ (hp.on (Below.refl _ _)) (by omega) hsh hc9m (by unfold okN; omega)
    refine stepCallIn hK 11 #[.agg #[.slice p.A1 p.ds.length p.c1, .slice p.A2 p.ts.length p.c2], .func (.func 70) #[] #[.pointer (some ⟨b3_2, 0, none⟩)], .func (.func 71) #[] #[.pointer (some ⟨b3_4, 0, none⟩)]] (by kernel_rfl) (run_callE en_ast_walkThreads rfl rfl (by kernel_rfl)) (hc9) ?_
    rintro ⟨r3_5, q3_5⟩ a w ⟨hR3_5, -⟩ hK hM
    replace hM := hM.to [.row b3_2 61 [.func (.func 44) #[] #[.pointer (some ⟨b2, 0, none⟩)]], .row b3_4 61 [.func (.func 44) #[] #[.pointer (some ⟨b2, 0, none⟩)]], .row b2 3 [.int .i64 ((q3_5 : Nat) : Int)], .row b1 25 [.slice p.A1 p.ds.length p.c1, .slice p.A2 p.ts.length p.c2]] (by kernel_rfl)
    refine tree_next #[true, true, true, true, true, true] (by kernel_rfl) ?_
    exact treeE (by kernel_rfl) ⟨b3_2, b3_4, q3_5, r3_5, hK.sub ⟨rfl, rfl, rfl, rfl, rfl, trivial⟩, hM, hR3_5⟩
   ·refine stepCall hK hM 10 #[.func (.func 44) #[] #[.pointer (some ⟨b2, 0, none⟩)]] (by kernel_rfl) (run_callE en_ast_anyStmt rfl rfl (by kernel_rfl)) (ast_anyStmt 44 #[.pointer (some ⟨b2, 0, none⟩)] _) ?_
    rintro b3_4 a w - hK hM
    refine tree_next #[false, true, true, true, true, false] (by kernel_rfl) ?_
    refine treeM [0] (by kernel_rfl) rfl ⟨?_, trivial⟩
    refine stepLoad hK 6 (.agg #[.slice p.A1 p.ds.length p.c1, .slice p.A2 p.ts.length p.c2]) (by kernel_rfl) rfl rfl ((hM.row 3 rfl).cells 0 2) (by kernel_rfl) fun a hK => ?_
    refine tree_next #[true, true, true, true, true, false] (by kernel_rfl) ?_
    refine treeM [5] (by kernel_rfl) rfl ⟨?_, trivial⟩
    have hc12m : Mem w0 _ [.row b3_2 61 [.func (.func 44) #[] #[.pointer (some ⟨b2, 0, none⟩)]], .row b3_4 61 [.func (.func 44) #[] #[.pointer (some ⟨b2, 0, none⟩)]], .row b2 3 [.int .i64 0], .row b1 25 [.slice p.A1 p.ds.length p.c1, .slice p.A2 p.ts.length p.c2]] := (hM.order [[.row b3_4 61 [.func (.func 44) #[] #[.pointer (some ⟨b2, 0, none⟩)]]], [.row b3_2 61 [.func (.func 44) #[] #[.pointer (some ⟨b2, 0, none⟩)]]], [.row b2 3 [.int .i64 0]], [.row b1 25 [.slice p.A1 p.ds.length p.c1, .slice p.A2 p.ts.length p.c2]]] [1, 0, 2, 3] 4 rfl (by simp) (by decide) ([.row b3_2 61 [.func (.func 44) #[] #[.pointer (some ⟨b2, 0, none⟩)]], .row b3_4 61 [.func (.func 44) #[] #[.pointer (some ⟨b2, 0, none⟩)]], .row b2 3 [.int .i64 0], .row b1 25 [.slice p.A1 p.ds.length p.c1, .slice p.A2 p.ts.length p.c2]]) (by simp))
    have hc12 := ast_walkThreads (any_expr2 (step_size _ b2) b3_2 b3_4) (any_stmt2 (step_size _ b2) b3_2 b3_4) p 0 0 [.row b1 25 [.slice p.A1 p.ds.length p.c1, .slice p.A2 p.ts.length p.c2]] _ (hp.on (Below.refl _ _)) (by omega) hsh hc12m (by unfold okN; omega)
    refine stepCallIn hK 11 #[.agg #[.slice p.A1 p.ds.length p.c1, .slice p.A2 p.ts.length p.c2], .func (.func 70) #[] #[.pointer (some ⟨b3_2, 0, none⟩)], .func (.func 71) #[] #[.pointer (some ⟨b3_4, 0, none⟩)]] (by kernel_rfl) (run_callE en_ast_walkThreads rfl rfl (by kernel_rfl)) (hc12) ?_
    rintro ⟨r3_5, q3_5⟩ a w ⟨hR3_5, -⟩ hK hM
    replace hM := hM.to [.row b3_2 61 [.func (.func 44) #[] #[.pointer (some ⟨b2, 0, none⟩)]], .row b3_4 61 [.func (.func 44) #[] #[.pointer (some ⟨b2, 0, none⟩)]], .row b2 3 [.int .i64 ((q3_5 : Nat) : Int)], .row b1 25 [.slice p.A1 p.ds.length p.c1, .slice p.A2 p.ts.length p.c2]] (by kernel_rfl)
    refine tree_next #[true, true, true, true, true, true] (by kernel_rfl) ?_
    exact treeE (by kernel_rfl) ⟨b3_2, b3_4, q3_5, r3_5, hK.sub ⟨rfl, rfl, rfl, rfl, rfl, trivial⟩, hM, hR3_5⟩
 rintro a w ⟨b3_2, b3_4, q3_5, r3_5, hK, hM, hR3_5⟩
 refine wp_seq ?_
 refine region_go (lst := [0, 1]) (by kernel_rfl) ?_
 refine stepLoad hK 12 (.int .i64 ((q3_5 : Nat) : Int)) (by kernel_rfl) rfl rfl ((hM.row 2 rfl).cells 0 1) (by kernel_rfl) fun a hK => ?_
 refine stepM hK 2 12 (by kernel_rfl) (.inr rfl) rfl fun a hK => ?_
 refine region_done hK [(2, .int .i64 ((q3_5 : Nat) : Int)), (4, .func (.func 44) #[] #[.pointer (some ⟨b2, 0, none⟩)]), (3, .pointer (some ⟨b2, 0, none⟩)), (1, .pointer (some ⟨b1, 0, none⟩)), (0, .agg #[.slice p.A1 p.ds.length p.c1, .slice p.A2 p.ts.length p.c2])] ⟨rfl, rfl, rfl, rfl, rfl, trivial⟩ fun a hK => ?_
 refine wp_ret ?_
 exact ret_t hK rfl (u := (.int .i64 ((q3_5 : Nat) : Int))) rfl (⟨by have h9 := (congrArg Prod.snd (hR3_5.trans (size_ths p.ts 0))); have h8 : q3_5 = _ := h9; rw [h8]; rw [Nat.zero_add], hM.below⟩)
set_option maxRecDepth 100000 in
set_option maxHeartbeats 4000000 in
theorem ast_Deep (p : Pg) (w0 : World) (hp : PgAt w0 p) (hsz : thsSz p.ts ≤ 100000) (hsh : pgSh p = true) : Calls Tryd.prog 11 #[.agg #[.slice p.A1 p.ds.length p.c1, .slice p.A2 p.ts.length p.c2]] w0 (Ret w0 (.int .i64 ((thsDp p.ts : Nat) : Int))) := by
 refine calls_K (args := [.agg #[.slice p.A1 p.ds.length p.c1, .slice p.A2 p.ts.length p.c2]]) (n := 13) (env := [(0, .agg #[.slice p.A1 p.ds.length p.c1, .slice p.A2 p.ts.length p.c2])]) Tryd.func11 rfl rfl rfl ⟨rfl, trivial⟩ fun a w hK hM => ?_
 refine wp_seq ?_
 refine region_go (lst := [0, 1]) (by kernel_rfl) ?_
 refine stepAlloc hK hM 1 25 [.slice p.A1 p.ds.length p.c1, .slice p.A2 p.ts.length p.c2] (fun b => .pointer (some ⟨b, 0, none⟩)) (by kernel_rfl) (by kernel_rfl) fun b1 a w hK hM => ?_
 refine stepP hK 2 (.int .i64 0) (by kernel_rfl) (by kernel_rfl) fun a hK => ?_
 refine region_done hK [(2, .int .i64 0), (1, .pointer (some ⟨b1, 0, none⟩)), (0, .agg #[.slice p.A1 p.ds.length p.c1, .slice p.A2 p.ts.length p.c2])] ⟨rfl, rfl, rfl, trivial⟩ fun a hK => ?_
 refine wp_seq ?_
 refine region_go (lst := [0, 1]) (by kernel_rfl) ?_
 refine stepAlloc hK hM 3 3 [.int .i64 0] (fun b => .pointer (some ⟨b, 0, none⟩)) (by kernel_rfl) (by kernel_rfl) fun b2 a w hK hM => ?_
 refine stepStore hK hM 0 [.int .i64 0] (by kernel_rfl) rfl rfl rfl rfl (by kernel_rfl) fun w hM => ?_
 replace hM := hM.to [.row b2 3 [.int .i64 0], .row b1 25 [.slice p.A1 p.ds.length p.c1, .slice p.A2 p.ts.length p.c2]] (by kernel_rfl)
 refine region_done hK [(3, .pointer (some ⟨b2, 0, none⟩)), (2, .int .i64 0), (1, .pointer (some ⟨b1, 0, none⟩)), (0, .agg #[.slice p.A1 p.ds.length p.c1, .slice p.A2 p.ts.length p.c2])] ⟨rfl, rfl, rfl, rfl, trivial⟩ fun a hK => ?_
 refine wp_seq ?_
 refine region_go (lst := [0, 1]) (by kernel_rfl) ?_
 refine stepP hK 5 (.func (.func 34) #[] #[.pointer (some ⟨b2, 0, none⟩)]) (by kernel_rfl) (by kernel_rfl) fun a hK => ?_
 refine stepM hK 4 5 (by kernel_rfl) (.inr rfl) rfl fun a hK => ?_
 refine region_done hK [(4, .func (.func 34) #[] #[.pointer (some ⟨b2, 0, none⟩)]), (3, .pointer (some ⟨b2, 0, none⟩)), (2, .int .i64 0), (1, .pointer (some ⟨b1, 0, none⟩)), (0, .agg #[.slice p.A1 p.ds.length p.c1, .slice p.A2 p.ts.length p.c2])] ⟨rfl, rfl, rfl, rfl, rfl, trivial⟩ fun a hK => ?_
 refine wp_seq ?_
 refine wp_cut (fun a w => ∃ (b3_2 : Nat), ∃ (b3_4 : Nat), ∃ (q3_5 : Nat), ∃ (r3_5 : Bool), Knows a 13 [(4, .func (.func 34) #[] #[.pointer (some ⟨b2, 0, none⟩)]), (3, .pointer (some ⟨b2, 0, none⟩)), (2, .int .i64 0), (1, .pointer (some ⟨b1, 0, none⟩)), (0, .agg #[.slice p.A1 p.ds.length p.c1, .slice p.A2 p.ts.length p.c2])] ∧ Mem w0 w [.row b3_2 61 [.func (.func 34) #[] #[.pointer (some ⟨b2, 0, none⟩)]], .row b3_4 61 [.func (.func 34) #[] #[.pointer (some ⟨b2, 0, none⟩)]], .row b2 3 [.int .i64 ((q3_5 : Nat) : Int)], .row b1 25 [.slice p.A1 p.ds.length p.c1, .slice p.A2 p.ts.length p.c2]] ∧ (r3_5, q3_5) = thsWk (fun _ d s => deepD d s) (fun _ d s => deepD d s) p.ts 0) ?_ ?_
 ·refine region_tree hM (by kernel_rfl) 6 (by kernel_rfl) #[false, false, false, false, false, false] (by kernel_rfl) ?_
  clear hM; intro w hM
  refine treeP hK 1 7 (.func (.func 34) #[] #[.pointer (some ⟨b2, 0, none⟩)]) (by kernel_rfl) (by kernel_rfl) (by kernel_rfl) (fun w => (by kernel_rfl)) #[false, true, false, false, false, false] (by kernel_rfl) fun a hK => ?_
  refine treeP hK 3 9 (.func (.func 34) #[] #[.pointer (some ⟨b2, 0, none⟩)]) (by kernel_rfl) (by kernel_rfl) (by kernel_rfl) (fun w => (by kernel_rfl)) #[false, true, false, true, false, false] (by kernel_rfl) fun a hK => ?_
  refine treeM [0, 2] (by kernel_rfl) rfl ⟨?_, ?_, trivial⟩
  ·refine stepLoad hK 6 (.agg #[.slice p.A1 p.ds.length p.c1, .slice p.A2 p.ts.length p.c2]) (by kernel_rfl) rfl rfl ((hM.row 1 rfl).cells 0 2) (by kernel_rfl) fun a hK => ?_
   refine tree_next #[true, true, false, true, false, false] (by kernel_rfl) ?_
   refine treeM [2] (by kernel_rfl) rfl ⟨?_, trivial⟩
   refine stepCall hK hM 8 #[.func (.func 34) #[] #[.pointer (some ⟨b2, 0, none⟩)]] (by kernel_rfl) (run_callE en_ast_anyExpr rfl rfl (by kernel_rfl)) (ast_anyExpr 34 #[.pointer (some ⟨b2, 0, none⟩)] _) ?_
   rintro b3_2 a w - hK hM
   refine tree_next #[true, true, true, true, false, false] (by kernel_rfl) ?_
   refine treeM [4] (by kernel_rfl) rfl ⟨?_, trivial⟩
   refine stepCall hK hM 10 #[.func (.func 34) #[] #[.pointer (some ⟨b2, 0, none⟩)]] (by kernel_rfl) (run_callE en_ast_anyStmt rfl rfl (by kernel_rfl)) (ast_anyStmt 34 #[.pointer (some ⟨b2, 0, none⟩)] _) ?_
   rintro b3_4 a w - hK hM
   refine tree_next #[true, true, true, true, true, false] (by kernel_rfl) ?_
   refine treeM [5] (by kernel_rfl) rfl ⟨?_, trivial⟩
   have hc5m : Mem w0 _ [.row b3_2 61 [.func (.func 34) #[] #[.pointer (some ⟨b2, 0, none⟩)]], .row b3_4 61 [.func (.func 34) #[] #[.pointer (some ⟨b2, 0, none⟩)]], .row b2 3 [.int .i64 0], .row b1 25 [.slice p.A1 p.ds.length p.c1, .slice p.A2 p.ts.length p.c2]] := (hM.order [[.row b3_4 61 [.func (.func 34) #[] #[.pointer (some ⟨b2, 0, none⟩)]]], [.row b3_2 61 [.func (.func 34) #[] #[.pointer (some ⟨b2, 0, none⟩)]]], [.row b2 3 [.int .i64 0]], [.row b1 25 [.slice p.A1 p.ds.length p.c1, .slice p.A2 p.ts.length p.c2]]] [1, 0, 2, 3] 4 rfl (by simp) (by decide) ([.row b3_2 61 [.func (.func 34) #[] #[.pointer (some ⟨b2, 0, none⟩)]], .row b3_4 61 [.func (.func 34) #[] #[.pointer (some ⟨b2, 0, none⟩)]], .row b2 3 [.int .i64 0], .row b1 25 [.slice p.A1 p.ds.length p.c1, .slice p.A2 p.ts.length p.c2]]) (by simp))
   have hc5 := ast_walkThreads (any_expr2 (step_deep _ b2) b3_2 b3_4) (any_stmt2 (step_deep _ b2) b3_2 b3_4) p 0 0 [.row b1 25 [.slice p.A1 p.ds.length p.c1, .slice p.A2 p.ts.length p.c2]] _ (hp.on (Below.refl _ _)) (by omega) hsh hc5m (trivial)
   refine stepCallIn hK 11 #[.agg #[.slice p.A1 p.ds.length p.c1, .slice p.A2 p.ts.length p.c2], .func (.func 70) #[] #[.pointer (some ⟨b3_2, 0, none⟩)], .func (.func 71) #[] #[.pointer (some ⟨b3_4, 0, none⟩)]] (by kernel_rfl) (run_callE en_ast_walkThreads rfl rfl (by kernel_rfl)) (hc5) ?_
   rintro ⟨r3_5, q3_5⟩ a w ⟨hR3_5, -⟩ hK hM
   replace hM := hM.to [.row b3_2 61 [.func (.func 34) #[] #[.pointer (some ⟨b2, 0, none⟩)]], .row b3_4 61 [.func (.func 34) #[] #[.pointer (some ⟨b2, 0, none⟩)]], .row b2 3 [.int .i64 ((q3_5 : Nat) : Int)], .row b1 25 [.slice p.A1 p.ds.length p.c1, .slice p.A2 p.ts.length p.c2]] (by kernel_rfl)
   refine tree_next #[true, true, true, true, true, true] (by kernel_rfl) ?_
   exact treeE (by kernel_rfl) ⟨b3_2, b3_4, q3_5, r3_5, hK.sub ⟨rfl, rfl, rfl, rfl, rfl, trivial⟩, hM, hR3_5⟩
  ·refine stepCall hK hM 8 #[.func (.func 34) #[] #[.pointer (some ⟨b2, 0, none⟩)]] (by kernel_rfl) (run_callE en_ast_anyExpr rfl rfl (by kernel_rfl)) (ast_anyExpr 34 #[.pointer (some ⟨b2, 0, none⟩)] _) ?_
   rintro b3_2 a w - hK hM
   refine tree_next #[false, true, true, true, false, false] (by kernel_rfl) ?_
   refine treeM [0, 4] (by kernel_rfl) rfl ⟨?_, ?_, trivial⟩
   ·refine stepLoad hK 6 (.agg #[.slice p.A1 p.ds.length p.c1, .slice p.A2 p.ts.length p.c2]) (by kernel_rfl) rfl rfl ((hM.row 2 rfl).cells 0 2) (by kernel_rfl) fun a hK => ?_
    refine tree_next #[true, true, true, true, false, false] (by kernel_rfl) ?_
    refine treeM [4] (by kernel_rfl) rfl ⟨?_, trivial⟩
    refine stepCall hK hM 10 #[.func (.func 34) #[] #[.pointer (some ⟨b2, 0, none⟩)]] (by kernel_rfl) (run_callE en_ast_anyStmt rfl rfl (by kernel_rfl)) (ast_anyStmt 34 #[.pointer (some ⟨b2, 0, none⟩)] _) ?_
    rintro b3_4 a w - hK hM
    refine tree_next #[true, true, true, true, true, false] (by kernel_rfl) ?_
    refine treeM [5] (by kernel_rfl) rfl ⟨?_, trivial⟩
    have hc9m : Mem w0 _ [.row b3_2 61 [.func (.func 34) #[] #[.pointer (some ⟨b2, 0, none⟩)]], .row b3_4 61 [.func (.func 34) #[] #[.pointer (some ⟨b2, 0, none⟩)]], .row b2 3 [.int .i64 0], .row b1 25 [.slice p.A1 p.ds.length p.c1, .slice p.A2 p.ts.length p.c2]] := (hM.order [[.row b3_4 61 [.func (.func 34) #[] #[.pointer (some ⟨b2, 0, none⟩)]]], [.row b3_2 61 [.func (.func 34) #[] #[.pointer (some ⟨b2, 0, none⟩)]]], [.row b2 3 [.int .i64 0]], [.row b1 25 [.slice p.A1 p.ds.length p.c1, .slice p.A2 p.ts.length p.c2]]] [1, 0, 2, 3] 4 rfl (by simp) (by decide) ([.row b3_2 61 [.func (.func 34) #[] #[.pointer (some ⟨b2, 0, none⟩)]], .row b3_4 61 [.func (.func 34) #[] #[.pointer (some ⟨b2, 0, none⟩)]], .row b2 3 [.int .i64 0], .row b1 25 [.slice p.A1 p.ds.length p.c1, .slice p.A2 p.ts.length p.c2]]) (by simp))
    have hc9 := ast_walkThreads (any_expr2 (step_deep _ b2) b3_2 b3_4) (any_stmt2 (step_deep _ b2) b3_2 b3_4) p 0 0 [.row b1 25 [.slice p.A1 p.ds.length p.c1, .slice p.A2 p.ts.length p.c2]] _ (hp.on (Below.refl _ _)) (by omega) hsh hc9m (trivial)
    refine stepCallIn hK 11 #[.agg #[.slice p.A1 p.ds.length p.c1, .slice p.A2 p.ts.length p.c2], .func (.func 70) #[] #[.pointer (some ⟨b3_2, 0, none⟩)], .func (.func 71) #[] #[.pointer (some ⟨b3_4, 0, none⟩)]] (by kernel_rfl) (run_callE en_ast_walkThreads rfl rfl (by kernel_rfl)) (hc9) ?_
    rintro ⟨r3_5, q3_5⟩ a w ⟨hR3_5, -⟩ hK hM
    replace hM := hM.to [.row b3_2 61 [.func (.func 34) #[] #[.pointer (some ⟨b2, 0, none⟩)]], .row b3_4 61 [.func (.func 34) #[] #[.pointer (some ⟨b2, 0, none⟩)]], .row b2 3 [.int .i64 ((q3_5 : Nat) : Int)], .row b1 25 [.slice p.A1 p.ds.length p.c1, .slice p.A2 p.ts.length p.c2]] (by kernel_rfl)
    refine tree_next #[true, true, true, true, true, true] (by kernel_rfl) ?_
    exact treeE (by kernel_rfl) ⟨b3_2, b3_4, q3_5, r3_5, hK.sub ⟨rfl, rfl, rfl, rfl, rfl, trivial⟩, hM, hR3_5⟩
   ·refine stepCall hK hM 10 #[.func (.func 34) #[] #[.pointer (some ⟨b2, 0, none⟩)]] (by kernel_rfl) (run_callE en_ast_anyStmt rfl rfl (by kernel_rfl)) (ast_anyStmt 34 #[.pointer (some ⟨b2, 0, none⟩)] _) ?_
    rintro b3_4 a w - hK hM
    refine tree_next #[false, true, true, true, true, false] (by kernel_rfl) ?_
    refine treeM [0] (by kernel_rfl) rfl ⟨?_, trivial⟩
    refine stepLoad hK 6 (.agg #[.slice p.A1 p.ds.length p.c1, .slice p.A2 p.ts.length p.c2]) (by kernel_rfl) rfl rfl ((hM.row 3 rfl).cells 0 2) (by kernel_rfl) fun a hK => ?_
    refine tree_next #[true, true, true, true, true, false] (by kernel_rfl) ?_
    refine treeM [5] (by kernel_rfl) rfl ⟨?_, trivial⟩
    have hc12m : Mem w0 _ [.row b3_2 61 [.func (.func 34) #[] #[.pointer (some ⟨b2, 0, none⟩)]], .row b3_4 61 [.func (.func 34) #[] #[.pointer (some ⟨b2, 0, none⟩)]], .row b2 3 [.int .i64 0], .row b1 25 [.slice p.A1 p.ds.length p.c1, .slice p.A2 p.ts.length p.c2]] := (hM.order [[.row b3_4 61 [.func (.func 34) #[] #[.pointer (some ⟨b2, 0, none⟩)]]], [.row b3_2 61 [.func (.func 34) #[] #[.pointer (some ⟨b2, 0, none⟩)]]], [.row b2 3 [.int .i64 0]], [.row b1 25 [.slice p.A1 p.ds.length p.c1, .slice p.A2 p.ts.length p.c2]]] [1, 0, 2, 3] 4 rfl (by simp) (by decide) ([.row b3_2 61 [.func (.func 34) #[] #[.pointer (some ⟨b2, 0, none⟩)]], .row b3_4 61 [.func (.func 34) #[] #[.pointer (some ⟨b2, 0, none⟩)]], .row b2 3 [.int .i64 0], .row b1 25 [.slice p.A1 p.ds.length p.c1, .slice p.A2 p.ts.length p.c2]]) (by simp))
    have hc12 := ast_walkThreads (any_expr2 (step_deep _ b2) b3_2 b3_4) (any_stmt2 (step_deep _ b2) b3_2 b3_4) p 0 0 [.row b1 25 [.slice p.A1 p.ds.length p.c1, .slice p.A2 p.ts.length p.c2]] _ (hp.on (Below.refl _ _)) (by omega) hsh hc12m (trivial)
    refine stepCallIn hK 11 #[.agg #[.slice p.A1 p.ds.length p.c1, .slice p.A2 p.ts.length p.c2], .func (.func 70) #[] #[.pointer (some ⟨b3_2, 0, none⟩)], .func (.func 71) #[] #[.pointer (some ⟨b3_4, 0, none⟩)]] (by kernel_rfl) (run_callE en_ast_walkThreads rfl rfl (by kernel_rfl)) (hc12) ?_
    rintro ⟨r3_5, q3_5⟩ a w ⟨hR3_5, -⟩ hK hM
    replace hM := hM.to [.row b3_2 61 [.func (.func 34) #[] #[.pointer (some ⟨b2, 0, none⟩)]], .row b3_4 61 [.func (.func 34) #[] #[.pointer (some ⟨b2, 0, none⟩)]], .row b2 3 [.int .i64 ((q3_5 : Nat) : Int)], .row b1 25 [.slice p.A1 p.ds.length p.c1, .slice p.A2 p.ts.length p.c2]] (by kernel_rfl)
    refine tree_next #[true, true, true, true, true, true] (by kernel_rfl) ?_
    exact treeE (by kernel_rfl) ⟨b3_2, b3_4, q3_5, r3_5, hK.sub ⟨rfl, rfl, rfl, rfl, rfl, trivial⟩, hM, hR3_5⟩
 rintro a w ⟨b3_2, b3_4, q3_5, r3_5, hK, hM, hR3_5⟩
 refine wp_seq ?_
 refine region_go (lst := [0, 1]) (by kernel_rfl) ?_
 refine stepLoad hK 12 (.int .i64 ((q3_5 : Nat) : Int)) (by kernel_rfl) rfl rfl ((hM.row 2 rfl).cells 0 1) (by kernel_rfl) fun a hK => ?_
 refine stepM hK 2 12 (by kernel_rfl) (.inr rfl) rfl fun a hK => ?_
 refine region_done hK [(2, .int .i64 ((q3_5 : Nat) : Int)), (4, .func (.func 34) #[] #[.pointer (some ⟨b2, 0, none⟩)]), (3, .pointer (some ⟨b2, 0, none⟩)), (1, .pointer (some ⟨b1, 0, none⟩)), (0, .agg #[.slice p.A1 p.ds.length p.c1, .slice p.A2 p.ts.length p.c2])] ⟨rfl, rfl, rfl, rfl, rfl, trivial⟩ fun a hK => ?_
 refine wp_ret ?_
 exact ret_t hK rfl (u := (.int .i64 ((q3_5 : Nat) : Int))) rfl (⟨by have h9 := (congrArg Prod.snd (hR3_5.trans (deep_ths p.ts 0))); have h8 : q3_5 = _ := h9; rw [h8]; rw [Nat.zero_max], hM.below⟩)
end Go.Proofs.YtmfiiapmkidmkaaDoor
