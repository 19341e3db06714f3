/-
 Check and CheckExpr of package ast.
-/
import Derived.Test.YtmfiiapmkidmkaaDoorAwD
namespace Go.Proofs.YtmfiiapmkidmkaaDoor
open Go Go.RowKit

set_option maxRecDepth 100000 in
set_option maxHeartbeats 4000000 in
theorem ast_Check (p : Pg) (w0 : World) (hTab : TabOk w0) (hp : PgAt w0 p) (hsz : thsSz p.ts ≤ 100000) (hsh : pgSh p = true) : Calls Tryd.prog 8 #[.agg #[.slice p.A1 p.ds.length p.c1, .slice p.A2 p.ts.length p.c2]] w0 (Ret w0 (.int .i64 (chkP p))) := by
 refine calls_K (args := [.agg #[.slice p.A1 p.ds.length p.c1, .slice p.A2 p.ts.length p.c2]]) (n := 25) (env := [(0, .agg #[.slice p.A1 p.ds.length p.c1, .slice p.A2 p.ts.length p.c2])]) Tryd.func8 rfl rfl rfl ⟨rfl, trivial⟩ fun a w hK hM => ?_
 refine wp_seq ?_
 refine region_go (lst := [0, 1]) (by kernel_rfl) ?_
 refine stepAlloc hK hM 1 25 [.slice p.A1 p.ds.length p.c1, .slice p.A2 p.ts.length p.c2] (fun b => .pointer (some ⟨b, 0, none⟩)) (by kernel_rfl) (by kernel_rfl) fun b1 a w hK hM => ?_
 refine stepP hK 2 (.int .i64 0) (by kernel_rfl) (by kernel_rfl) fun a hK => ?_
 refine region_done hK [(2, .int .i64 0), (1, .pointer (some ⟨b1, 0, none⟩)), (0, .agg #[.slice p.A1 p.ds.length p.c1, .slice p.A2 p.ts.length p.c2])] ⟨rfl, rfl, rfl, trivial⟩ fun a hK => ?_
 refine wp_seq ?_
 refine region_go (lst := [0, 1, 2, 3, 4, 5]) (by kernel_rfl) ?_
 refine stepCall hK hM 6 #[] (by kernel_rfl) (run_callE en_ast_limits rfl rfl (by kernel_rfl)) (ast_limits _) ?_
 rintro ⟨x2, y3, z4⟩ a w - hK hM
 refine stepM hK 5 6 (by kernel_rfl) (.inl rfl) rfl fun a hK => ?_
 refine stepP hK 7 (.func (.func 70) #[] #[.pointer (some ⟨x2, 0, none⟩)]) (by kernel_rfl) (by kernel_rfl) fun a hK => ?_
 refine stepP hK 8 (.func (.func 71) #[] #[.pointer (some ⟨y3, 0, none⟩)]) (by kernel_rfl) (by kernel_rfl) fun a hK => ?_
 refine stepM hK 3 7 (by kernel_rfl) (.inr rfl) rfl fun a hK => ?_
 refine stepM hK 4 8 (by kernel_rfl) (.inr rfl) rfl fun a hK => ?_
 refine region_done hK [(4, .func (.func 71) #[] #[.pointer (some ⟨y3, 0, none⟩)]), (3, .func (.func 70) #[] #[.pointer (some ⟨x2, 0, none⟩)]), (2, .int .i64 0), (1, .pointer (some ⟨b1, 0, none⟩)), (0, .agg #[.slice p.A1 p.ds.length p.c1, .slice p.A2 p.ts.length p.c2])] ⟨rfl, rfl, rfl, rfl, rfl, trivial⟩ fun a hK => ?_
 refine wp_seq ?_
 refine wp_block ?_
 refine wp_seq ?_
 refine region_go (lst := [0, 1, 2, 3, 4, 5]) (by kernel_rfl) ?_
 refine stepLoad hK 10 (.agg #[.slice p.A1 p.ds.length p.c1, .slice p.A2 p.ts.length p.c2]) (by kernel_rfl) rfl rfl ((hM.row 3 rfl).cells 0 2) (by kernel_rfl) fun a hK => ?_
 refine stepM hK 11 3 (by kernel_rfl) (.inl rfl) rfl fun a hK => ?_
 refine stepM hK 12 4 (by kernel_rfl) (.inl rfl) rfl fun a hK => ?_
 have hc6m : Mem w0 _ [.row x2 61 [.func (.func 65) #[] #[.pointer (some ⟨z4, 0, none⟩)]], .row y3 61 [.func (.func 65) #[] #[.pointer (some ⟨z4, 0, none⟩)]], .row z4 3 [.int .i64 ((0 : Nat) : Int)], .row b1 25 [.slice p.A1 p.ds.length p.c1, .slice p.A2 p.ts.length p.c2]] := hM
 have hc6 := ast_walkThreads (any_expr2 (step_lim _ z4) x2 y3) (any_stmt2 (step_lim _ z4) x2 y3) p 0 0 [.row b1 25 [.slice p.A1 p.ds.length p.c1, .slice p.A2 p.ts.length p.c2]] _ (hp.on (Below.refl _ _)) (by omega) hsh hc6m (by unfold okN; omega)
 refine stepCallIn hK 13 #[.agg #[.slice p.A1 p.ds.length p.c1, .slice p.A2 p.ts.length p.c2], .func (.func 70) #[] #[.pointer (some ⟨x2, 0, none⟩)], .func (.func 71) #[] #[.pointer (some ⟨y3, 0, none⟩)]] (by kernel_rfl) (run_callE en_ast_walkThreads rfl rfl (by kernel_rfl)) (hc6) ?_
 rintro ⟨r7, q8⟩ a w ⟨hR9, -⟩ hK hM
 replace hM := hM.to [.row x2 61 [.func (.func 65) #[] #[.pointer (some ⟨z4, 0, none⟩)]], .row y3 61 [.func (.func 65) #[] #[.pointer (some ⟨z4, 0, none⟩)]], .row z4 3 [.int .i64 ((q8 : Nat) : Int)], .row b1 25 [.slice p.A1 p.ds.length p.c1, .slice p.A2 p.ts.length p.c2]] (by kernel_rfl)
 rcases Bool.eq_false_or_eq_true (!r7) with h11 | h11
 ·refine stepP hK 14 (.bool true) (by kernel_rfl) (okBool (b := (!r7)) (by kernel_rfl) h11) fun a hK => ?_
  refine stepM hK 9 14 (by kernel_rfl) (.inr rfl) rfl fun a hK => ?_
  refine region_done hK [(9, .bool true), (4, .func (.func 71) #[] #[.pointer (some ⟨y3, 0, none⟩)]), (3, .func (.func 70) #[] #[.pointer (some ⟨x2, 0, none⟩)]), (2, .int .i64 0), (1, .pointer (some ⟨b1, 0, none⟩)), (0, .agg #[.slice p.A1 p.ds.length p.c1, .slice p.A2 p.ts.length p.c2])] ⟨rfl, rfl, rfl, rfl, rfl, rfl, trivial⟩ fun a hK => ?_
  refine wp_cond_true (hK.get rfl) ?_
  refine wp_seq ?_
  refine region_go (lst := [0]) (by kernel_rfl) ?_
  refine stepP hK 2 (.int .i64 3) (by kernel_rfl) (by kernel_rfl) fun a hK => ?_
  refine region_done hK [(2, .int .i64 3), (9, .bool true), (4, .func (.func 71) #[] #[.pointer (some ⟨y3, 0, none⟩)]), (3, .func (.func 70) #[] #[.pointer (some ⟨x2, 0, none⟩)]), (1, .pointer (some ⟨b1, 0, none⟩)), (0, .agg #[.slice p.A1 p.ds.length p.c1, .slice p.A2 p.ts.length p.c2])] ⟨rfl, rfl, rfl, rfl, rfl, rfl, trivial⟩ fun a hK => ?_
  refine wp_ret ?_
  exact ret_t hK rfl (u := (.int .i64 3)) rfl (⟨by unfold chkP; rw [lim_chk hR9, h11, if_pos rfl], hM.below⟩)
 ·refine stepP hK 14 (.bool false) (by kernel_rfl) (okBool (b := (!r7)) (by kernel_rfl) h11) fun a hK => ?_
  refine stepM hK 9 14 (by kernel_rfl) (.inr rfl) rfl fun a hK => ?_
  refine region_done hK [(9, .bool false), (4, .func (.func 71) #[] #[.pointer (some ⟨y3, 0, none⟩)]), (3, .func (.func 70) #[] #[.pointer (some ⟨x2, 0, none⟩)]), (2, .int .i64 0), (1, .pointer (some ⟨b1, 0, none⟩)), (0, .agg #[.slice p.A1 p.ds.length p.c1, .slice p.A2 p.ts.length p.c2])] ⟨rfl, rfl, rfl, rfl, rfl, rfl, trivial⟩ fun a hK => ?_
  refine wp_cond_false (hK.get rfl) ?_
  refine wp_seq ?_
  refine region_go (lst := [0, 1, 2, 3, 4, 5, 6, 7, 8, 9]) (by kernel_rfl) ?_
  refine stepP hK 16 (.pointer (some ⟨b1, 0, none⟩)) (by kernel_rfl) (by kernel_rfl) fun a hK => ?_
  refine stepLoad hK 17 (.slice p.A1 p.ds.length p.c1) (by kernel_rfl) rfl rfl ((hM.row 3 rfl).cells 0 1) (by kernel_rfl) fun a hK => ?_
  rcases Bool.eq_false_or_eq_true (dcsOk p.ds) with h12 | h12
  ·refine stepRet hK hM 18 #[.slice p.A1 p.ds.length p.c1] (.bool true) (by kernel_rfl) (run_callE en_ast_declsMayBe rfl rfl (by kernel_rfl)) (ret_eq (ast_declsMayBe p _ (hp.on hM.below) hsh) (congrArg Value.bool h12)) fun a w hK hM => ?_
   refine stepP hK 19 (.bool false) (by kernel_rfl) (by kernel_rfl) fun a hK => ?_
   refine stepM hK 20 19 (by kernel_rfl) (.inl rfl) rfl fun a hK => ?_
   refine stepLoad hK 21 (.agg #[.slice p.A1 p.ds.length p.c1, .slice p.A2 p.ts.length p.c2]) (by kernel_rfl) rfl rfl ((hM.row 3 rfl).cells 0 2) (by kernel_rfl) fun a hK => ?_
   have hc13m : Mem w0 _ [.row x2 61 [.func (.func 65) #[] #[.pointer (some ⟨z4, 0, none⟩)]], .row y3 61 [.func (.func 65) #[] #[.pointer (some ⟨z4, 0, none⟩)]], .row z4 3 [.int .i64 ((q8 : Nat) : Int)], .row b1 25 [.slice p.A1 p.ds.length p.c1, .slice p.A2 p.ts.length p.c2]] := hM
   have hc13 := ast_walkThreads (step_mayE w0 hTab) (step_mayS w0 hTab) p 0 () [.row x2 61 [.func (.func 65) #[] #[.pointer (some ⟨z4, 0, none⟩)]], .row y3 61 [.func (.func 65) #[] #[.pointer (some ⟨z4, 0, none⟩)]], .row z4 3 [.int .i64 ((q8 : Nat) : Int)], .row b1 25 [.slice p.A1 p.ds.length p.c1, .slice p.A2 p.ts.length p.c2]] _ (hp.on (Below.refl _ _)) (by omega) hsh hc13m trivial
   refine stepCallIn hK 22 #[.agg #[.slice p.A1 p.ds.length p.c1, .slice p.A2 p.ts.length p.c2], .func (.func 31) #[] #[], .func (.func 32) #[] #[]] (by kernel_rfl) (run_callE en_ast_walkThreads rfl rfl (by kernel_rfl)) (hc13) ?_
   rintro ⟨r14, q15⟩ a w ⟨hR16, -⟩ hK hM
   replace hM := hM.to [.row x2 61 [.func (.func 65) #[] #[.pointer (some ⟨z4, 0, none⟩)]], .row y3 61 [.func (.func 65) #[] #[.pointer (some ⟨z4, 0, none⟩)]], .row z4 3 [.int .i64 ((q8 : Nat) : Int)], .row b1 25 [.slice p.A1 p.ds.length p.c1, .slice p.A2 p.ts.length p.c2]] (by kernel_rfl)
   have hth : thsOk p.ts = r14 := by rw [may_ths] at hR16; exact (congrArg Prod.fst hR16).symm
   rcases Bool.eq_false_or_eq_true (!r14) with h18 | h18
   ·refine stepP hK 23 (.bool true) (by kernel_rfl) (okBool (b := (!r14)) (by kernel_rfl) h18) fun a hK => ?_
    refine stepP hK 24 (.bool true) (by kernel_rfl) (by kernel_rfl) fun a hK => ?_
    refine stepM hK 15 24 (by kernel_rfl) (.inr rfl) rfl fun a hK => ?_
    refine region_done hK [(15, .bool true), (9, .bool false), (4, .func (.func 71) #[] #[.pointer (some ⟨y3, 0, none⟩)]), (3, .func (.func 70) #[] #[.pointer (some ⟨x2, 0, none⟩)]), (2, .int .i64 0), (1, .pointer (some ⟨b1, 0, none⟩)), (0, .agg #[.slice p.A1 p.ds.length p.c1, .slice p.A2 p.ts.length p.c2])] ⟨rfl, rfl, rfl, rfl, rfl, rfl, rfl, trivial⟩ fun a hK => ?_
    refine wp_cond_true (hK.get rfl) ?_
    refine wp_seq ?_
    refine region_go (lst := [0]) (by kernel_rfl) ?_
    refine stepP hK 2 (.int .i64 2) (by kernel_rfl) (by kernel_rfl) fun a hK => ?_
    refine region_done hK [(2, .int .i64 2), (15, .bool true), (9, .bool false), (4, .func (.func 71) #[] #[.pointer (some ⟨y3, 0, none⟩)]), (3, .func (.func 70) #[] #[.pointer (some ⟨x2, 0, none⟩)]), (1, .pointer (some ⟨b1, 0, none⟩)), (0, .agg #[.slice p.A1 p.ds.length p.c1, .slice p.A2 p.ts.length p.c2])] ⟨rfl, rfl, rfl, rfl, rfl, rfl, rfl, trivial⟩ fun a hK => ?_
    refine wp_ret ?_
    exact ret_t hK rfl (u := (.int .i64 2)) rfl (⟨by unfold chkP; rw [lim_chk hR9, h11, if_neg (by decide), h12, if_pos rfl, hth, bf_of h18, if_neg (by decide)], hM.below⟩)
   ·refine stepP hK 23 (.bool false) (by kernel_rfl) (okBool (b := (!r14)) (by kernel_rfl) h18) fun a hK => ?_
    refine stepP hK 24 (.bool false) (by kernel_rfl) (by kernel_rfl) fun a hK => ?_
    refine stepM hK 15 24 (by kernel_rfl) (.inr rfl) rfl fun a hK => ?_
    refine region_done hK [(15, .bool false), (9, .bool false), (4, .func (.func 71) #[] #[.pointer (some ⟨y3, 0, none⟩)]), (3, .func (.func 70) #[] #[.pointer (some ⟨x2, 0, none⟩)]), (2, .int .i64 0), (1, .pointer (some ⟨b1, 0, none⟩)), (0, .agg #[.slice p.A1 p.ds.length p.c1, .slice p.A2 p.ts.length p.c2])] ⟨rfl, rfl, rfl, rfl, rfl, rfl, rfl, trivial⟩ fun a hK => ?_
    refine wp_cond_false (hK.get rfl) ?_
    refine wp_skip ?_
    refine wp_seq ?_
    refine region_go (lst := [0]) (by kernel_rfl) ?_
    refine stepP hK 2 (.int .i64 0) (by kernel_rfl) (by kernel_rfl) fun a hK => ?_
    refine region_done hK [(2, .int .i64 0), (15, .bool false), (9, .bool false), (4, .func (.func 71) #[] #[.pointer (some ⟨y3, 0, none⟩)]), (3, .func (.func 70) #[] #[.pointer (some ⟨x2, 0, none⟩)]), (1, .pointer (some ⟨b1, 0, none⟩)), (0, .agg #[.slice p.A1 p.ds.length p.c1, .slice p.A2 p.ts.length p.c2])] ⟨rfl, rfl, rfl, rfl, rfl, rfl, rfl, trivial⟩ fun a hK => ?_
    refine wp_ret ?_
    exact ret_t hK rfl (u := (.int .i64 0)) rfl (⟨by unfold chkP; rw [lim_chk hR9, h11, if_neg (by decide), h12, if_pos rfl, hth, bt_of h18, if_pos rfl], hM.below⟩)
  ·refine stepRet hK hM 18 #[.slice p.A1 p.ds.length p.c1] (.bool false) (by kernel_rfl) (run_callE en_ast_declsMayBe rfl rfl (by kernel_rfl)) (ret_eq (ast_declsMayBe p _ (hp.on hM.below) hsh) (congrArg Value.bool h12)) fun a w hK hM => ?_
   refine stepP hK 19 (.bool true) (by kernel_rfl) (by kernel_rfl) fun a hK => ?_
   refine stepM hK 20 19 (by kernel_rfl) (.inl rfl) rfl fun a hK => ?_
   refine stepN hK 21 (by kernel_rfl) fun a hK => ?_
   refine stepN hK 22 (by kernel_rfl) fun a hK => ?_
   refine stepN hK 23 (by kernel_rfl) fun a hK => ?_
   refine stepP hK 24 (.bool true) (by kernel_rfl) (by kernel_rfl) fun a hK => ?_
   refine stepM hK 15 24 (by kernel_rfl) (.inr rfl) rfl fun a hK => ?_
   refine region_done hK [(15, .bool true), (9, .bool false), (4, .func (.func 71) #[] #[.pointer (some ⟨y3, 0, none⟩)]), (3, .func (.func 70) #[] #[.pointer (some ⟨x2, 0, none⟩)]), (2, .int .i64 0), (1, .pointer (some ⟨b1, 0, none⟩)), (0, .agg #[.slice p.A1 p.ds.length p.c1, .slice p.A2 p.ts.length p.c2])] ⟨rfl, rfl, rfl, rfl, rfl, rfl, rfl, trivial⟩ fun a hK => ?_
   refine wp_cond_true (hK.get rfl) ?_
   refine wp_seq ?_
   refine region_go (lst := [0]) (by kernel_rfl) ?_
   refine stepP hK 2 (.int .i64 2) (by kernel_rfl) (by kernel_rfl) fun a hK => ?_
   refine region_done hK [(2, .int .i64 2), (15, .bool true), (9, .bool false), (4, .func (.func 71) #[] #[.pointer (some ⟨y3, 0, none⟩)]), (3, .func (.func 70) #[] #[.pointer (some ⟨x2, 0, none⟩)]), (1, .pointer (some ⟨b1, 0, none⟩)), (0, .agg #[.slice p.A1 p.ds.length p.c1, .slice p.A2 p.ts.length p.c2])] ⟨rfl, rfl, rfl, rfl, rfl, rfl, rfl, trivial⟩ fun a hK => ?_
   refine wp_ret ?_
   exact ret_t hK rfl (u := (.int .i64 2)) rfl (⟨by unfold chkP; rw [lim_chk hR9, h11, if_neg (by decide), h12, if_neg (by decide)], hM.below⟩)
theorem StepE.more {σ : Type} {w0 : World} {G : σ → List It} {ok : Nat → σ → Prop} {f : Ex → Nat → σ → Bool × σ} {fe : FuncId} {ce : Array Value} (h : StepE w0 G ok f fe ce) (X : List It) : StepE w0 (fun s => X ++ G s) ok f fe ce := by
 refine ⟨h.enters, ?_, h.ok⟩
 intro e d k s F w hM he hs hd hok
 have h1 : Mem w0 w (G s ++ (X ++ F)) := hM.perm (by rw [List.append_assoc]; exact perm_mid X (G s) F)
 refine (h.call e d k s (X ++ F) w h1 he hs hd hok).mono fun _ _ h2 => Gives.perm (fun r => ?_) h2
 rw [List.append_assoc]; exact perm_mid2 X (G r.2) F
theorem StepS.more {σ : Type} {w0 : World} {G : σ → List It} {ok : Nat → σ → Prop} {f : Sm → Nat → σ → Bool × σ} {fe : FuncId} {ce : Array Value} (h : StepS w0 G ok f fe ce) (X : List It) : StepS w0 (fun s => X ++ G s) ok f fe ce := by
 refine ⟨h.enters, ?_, h.ok⟩
 intro e d k s F w hM he hs hd hok
 have h1 : Mem w0 w (G s ++ (X ++ F)) := hM.perm (by rw [List.append_assoc]; exact perm_mid X (G s) F)
 refine (h.call e d k s (X ++ F) w h1 he hs hd hok).mono fun _ _ h2 => Gives.perm (fun r => ?_) h2
 rw [List.append_assoc]; exact perm_mid2 X (G r.2) F
theorem one_at {w0 w : World} {b : Nat} {e : Ex} (h : Mem w0 w [.row b 36 (cE e)]) (he : ExAt w e) : ExsAt w (some ⟨b, 0, none⟩) [e] := by
 intro k x hx
 cases k with
 | zero =>
  obtain rfl := Option.some.inj hx
  refine ⟨⟨_, rfl, ?_⟩, he⟩
  have := (h.row 0 rfl).cells 0 4
  rw [Nat.zero_mul]; exact this
 | succ k => simp at hx
set_option maxRecDepth 100000 in
set_option maxHeartbeats 4000000 in
theorem ast_CheckExpr (e : Ex) (w0 : World) (hTab : TabOk w0) (he : ExAt w0 e) (hsz : e.sz ≤ 100000) (hsh : e.sh = true) : Calls Tryd.prog 9 #[.agg #[.int .i64 e.op, .int .i64 e.num, Str e.nm, .slice e.A e.ks.length e.c]] w0 (Ret w0 (.int .i64 (chkE e))) := by
 refine calls_K (args := [.agg #[.int .i64 e.op, .int .i64 e.num, Str e.nm, .slice e.A e.ks.length e.c]]) (n := 22) (env := [(0, .agg #[.int .i64 e.op, .int .i64 e.num, Str e.nm, .slice e.A e.ks.length e.c])]) Tryd.func9 rfl rfl rfl ⟨rfl, trivial⟩ fun a w hK hM => ?_
 refine wp_seq ?_
 refine region_go (lst := [0, 1]) (by kernel_rfl) ?_
 refine stepAlloc hK hM 1 36 [.int .i64 e.op, .int .i64 e.num, Str e.nm, .slice e.A e.ks.length e.c] (fun b => .pointer (some ⟨b, 0, none⟩)) (by kernel_rfl) (by kernel_rfl) fun b1 a w hK hM => ?_
 refine stepP hK 2 (.int .i64 0) (by kernel_rfl) (by kernel_rfl) fun a hK => ?_
 refine region_done hK [(2, .int .i64 0), (1, .pointer (some ⟨b1, 0, none⟩)), (0, .agg #[.int .i64 e.op, .int .i64 e.num, Str e.nm, .slice e.A e.ks.length e.c])] ⟨rfl, rfl, rfl, trivial⟩ fun a hK => ?_
 refine wp_seq ?_
 refine region_go (lst := [0, 1, 2, 3, 4, 5]) (by kernel_rfl) ?_
 refine stepCall hK hM 7 #[] (by kernel_rfl) (run_callE en_ast_limits rfl rfl (by kernel_rfl)) (ast_limits _) ?_
 rintro ⟨x2, y3, z4⟩ a w - hK hM
 refine stepM hK 6 7 (by kernel_rfl) (.inl rfl) rfl fun a hK => ?_
 refine stepP hK 8 (.func (.func 70) #[] #[.pointer (some ⟨x2, 0, none⟩)]) (by kernel_rfl) (by kernel_rfl) fun a hK => ?_
 refine stepP hK 9 (.func (.func 71) #[] #[.pointer (some ⟨y3, 0, none⟩)]) (by kernel_rfl) (by kernel_rfl) fun a hK => ?_
 refine stepM hK 3 8 (by kernel_rfl) (.inr rfl) rfl fun a hK => ?_
 refine stepM hK 4 9 (by kernel_rfl) (.inr rfl) rfl fun a hK => ?_
 refine region_done hK [(4, .func (.func 71) #[] #[.pointer (some ⟨y3, 0, none⟩)]), (3, .func (.func 70) #[] #[.pointer (some ⟨x2, 0, none⟩)]), (2, .int .i64 0), (1, .pointer (some ⟨b1, 0, none⟩)), (0, .agg #[.int .i64 e.op, .int .i64 e.num, Str e.nm, .slice e.A e.ks.length e.c])] ⟨rfl, rfl, rfl, rfl, rfl, trivial⟩ fun a hK => ?_
 refine wp_seq ?_
 refine region_go (lst := [0, 1, 2]) (by kernel_rfl) ?_
 refine stepLoad hK 10 (.agg #[.int .i64 e.op, .int .i64 e.num, Str e.nm, .slice e.A e.ks.length e.c]) (by kernel_rfl) rfl rfl ((hM.row 3 rfl).cells 0 4) (by kernel_rfl) fun a hK => ?_
 refine stepAlloc hK hM 11 36 [.int .i64 e.op, .int .i64 e.num, Str e.nm, .slice e.A e.ks.length e.c] (fun b => .slice (some ⟨b, 0, none⟩) 1 1) (by kernel_rfl) (by kernel_rfl) fun b6 a w hK hM => ?_
 refine stepM hK 5 11 (by kernel_rfl) (.inr rfl) rfl fun a hK => ?_
 refine region_done hK [(5, .slice (some ⟨b6, 0, none⟩) 1 1), (4, .func (.func 71) #[] #[.pointer (some ⟨y3, 0, none⟩)]), (3, .func (.func 70) #[] #[.pointer (some ⟨x2, 0, none⟩)]), (2, .int .i64 0), (1, .pointer (some ⟨b1, 0, none⟩)), (0, .agg #[.int .i64 e.op, .int .i64 e.num, Str e.nm, .slice e.A e.ks.length e.c])] ⟨rfl, rfl, rfl, rfl, rfl, rfl, trivial⟩ fun a hK => ?_
 refine wp_seq ?_
 refine wp_block ?_
 refine wp_seq ?_
 refine region_go (lst := [0, 1, 2, 3, 4, 5]) (by kernel_rfl) ?_
 refine stepM hK 13 5 (by kernel_rfl) (.inl rfl) rfl fun a hK => ?_
 refine stepM hK 14 3 (by kernel_rfl) (.inl rfl) rfl fun a hK => ?_
 refine stepM hK 15 4 (by kernel_rfl) (.inl rfl) rfl fun a hK => ?_
 have hc7m : Mem w0 _ [.row b6 36 [.int .i64 e.op, .int .i64 e.num, Str e.nm, .slice e.A e.ks.length e.c], .row x2 61 [.func (.func 65) #[] #[.pointer (some ⟨z4, 0, none⟩)]], .row y3 61 [.func (.func 65) #[] #[.pointer (some ⟨z4, 0, none⟩)]], .row z4 3 [.int .i64 ((0 : Nat) : Int)], .row b1 36 [.int .i64 e.op, .int .i64 e.num, Str e.nm, .slice e.A e.ks.length e.c]] := hM
 have hc7 := ast_walk (StepE.more (any_expr2 (step_lim _ z4) x2 y3) [.row b6 36 [.int .i64 e.op, .int .i64 e.num, Str e.nm, .slice e.A e.ks.length e.c]]) (StepS.more (any_stmt2 (step_lim _ z4) x2 y3) [.row b6 36 [.int .i64 e.op, .int .i64 e.num, Str e.nm, .slice e.A e.ks.length e.c]]) [e] [] (some ⟨b6, 0, none⟩) 1 none 0 1 0 0 [.row b1 36 [.int .i64 e.op, .int .i64 e.num, Str e.nm, .slice e.A e.ks.length e.c]] _ (by simp only [exsSz, smsSz]; omega) (fun s F w h => ⟨one_at (h.pick 0 rfl) (he.on h.below), fun k x hx => by simp at hx⟩) (by simp [exsSh, hsh]) rfl hc7m (by simp only [exsSz, smsSz]; unfold okN; omega)
 refine stepCallIn hK 16 #[.slice (some ⟨b6, 0, none⟩) 1 1, .slice none 0 0, .int .i64 1, .func (.func 70) #[] #[.pointer (some ⟨x2, 0, none⟩)], .func (.func 71) #[] #[.pointer (some ⟨y3, 0, none⟩)]] (by kernel_rfl) (run_callE en_ast_walk rfl rfl (by kernel_rfl)) (hc7) ?_
 rintro ⟨r8, q9⟩ a w ⟨hR10, -⟩ hK hM
 replace hM := hM.to [.row b6 36 [.int .i64 e.op, .int .i64 e.num, Str e.nm, .slice e.A e.ks.length e.c], .row x2 61 [.func (.func 65) #[] #[.pointer (some ⟨z4, 0, none⟩)]], .row y3 61 [.func (.func 65) #[] #[.pointer (some ⟨z4, 0, none⟩)]], .row z4 3 [.int .i64 ((q9 : Nat) : Int)], .row b1 36 [.int .i64 e.op, .int .i64 e.num, Str e.nm, .slice e.A e.ks.length e.c]] (by kernel_rfl)
 rcases Bool.eq_false_or_eq_true (!r8) with h12 | h12
 ·refine stepP hK 17 (.bool true) (by kernel_rfl) (okBool (b := (!r8)) (by kernel_rfl) h12) fun a hK => ?_
  refine stepM hK 12 17 (by kernel_rfl) (.inr rfl) rfl fun a hK => ?_
  refine region_done hK [(12, .bool true), (5, .slice (some ⟨b6, 0, none⟩) 1 1), (4, .func (.func 71) #[] #[.pointer (some ⟨y3, 0, none⟩)]), (3, .func (.func 70) #[] #[.pointer (some ⟨x2, 0, none⟩)]), (2, .int .i64 0), (1, .pointer (some ⟨b1, 0, none⟩)), (0, .agg #[.int .i64 e.op, .int .i64 e.num, Str e.nm, .slice e.A e.ks.length e.c])] ⟨rfl, rfl, rfl, rfl, rfl, rfl, rfl, trivial⟩ fun a hK => ?_
  refine wp_cond_true (hK.get rfl) ?_
  refine wp_seq ?_
  refine region_go (lst := [0]) (by kernel_rfl) ?_
  refine stepP hK 2 (.int .i64 3) (by kernel_rfl) (by kernel_rfl) fun a hK => ?_
  refine region_done hK [(2, .int .i64 3), (12, .bool true), (5, .slice (some ⟨b6, 0, none⟩) 1 1), (4, .func (.func 71) #[] #[.pointer (some ⟨y3, 0, none⟩)]), (3, .func (.func 70) #[] #[.pointer (some ⟨x2, 0, none⟩)]), (1, .pointer (some ⟨b1, 0, none⟩)), (0, .agg #[.int .i64 e.op, .int .i64 e.num, Str e.nm, .slice e.A e.ks.length e.c])] ⟨rfl, rfl, rfl, rfl, rfl, rfl, rfl, trivial⟩ fun a hK => ?_
  refine wp_ret ?_
  exact ret_t hK rfl (u := (.int .i64 3)) rfl (⟨by unfold chkE; rw [lim_che hR10, h12, if_pos rfl], hM.below⟩)
 ·refine stepP hK 17 (.bool false) (by kernel_rfl) (okBool (b := (!r8)) (by kernel_rfl) h12) fun a hK => ?_
  refine stepM hK 12 17 (by kernel_rfl) (.inr rfl) rfl fun a hK => ?_
  refine region_done hK [(12, .bool false), (5, .slice (some ⟨b6, 0, none⟩) 1 1), (4, .func (.func 71) #[] #[.pointer (some ⟨y3, 0, none⟩)]), (3, .func (.func 70) #[] #[.pointer (some ⟨x2, 0, none⟩)]), (2, .int .i64 0), (1, .pointer (some ⟨b1, 0, none⟩)), (0, .agg #[.int .i64 e.op, .int .i64 e.num, Str e.nm, .slice e.A e.ks.length e.c])] ⟨rfl, rfl, rfl, rfl, rfl, rfl, rfl, trivial⟩ fun a hK => ?_
  refine wp_cond_false (hK.get rfl) ?_
  refine wp_seq ?_
  refine region_go (lst := [0, 1, 2, 3]) (by kernel_rfl) ?_
  refine stepM hK 19 5 (by kernel_rfl) (.inl rfl) rfl fun a hK => ?_
  have hc13m : Mem w0 _ [.row b6 36 [.int .i64 e.op, .int .i64 e.num, Str e.nm, .slice e.A e.ks.length e.c], .row x2 61 [.func (.func 65) #[] #[.pointer (some ⟨z4, 0, none⟩)]], .row y3 61 [.func (.func 65) #[] #[.pointer (some ⟨z4, 0, none⟩)]], .row z4 3 [.int .i64 ((q9 : Nat) : Int)], .row b1 36 [.int .i64 e.op, .int .i64 e.num, Str e.nm, .slice e.A e.ks.length e.c]] := hM
  have hc13 := ast_walk (StepE.more (step_mayE w0 hTab) [.row b6 36 [.int .i64 e.op, .int .i64 e.num, Str e.nm, .slice e.A e.ks.length e.c]]) (StepS.more (step_mayS w0 hTab) [.row b6 36 [.int .i64 e.op, .int .i64 e.num, Str e.nm, .slice e.A e.ks.length e.c]]) [e] [] (some ⟨b6, 0, none⟩) 1 none 0 1 0 () [.row x2 61 [.func (.func 65) #[] #[.pointer (some ⟨z4, 0, none⟩)]], .row y3 61 [.func (.func 65) #[] #[.pointer (some ⟨z4, 0, none⟩)]], .row z4 3 [.int .i64 ((q9 : Nat) : Int)], .row b1 36 [.int .i64 e.op, .int .i64 e.num, Str e.nm, .slice e.A e.ks.length e.c]] _ (by simp only [exsSz, smsSz]; omega) (fun s F w h => ⟨one_at (h.pick 0 rfl) (he.on h.below), fun k x hx => by simp at hx⟩) (by simp [exsSh, hsh]) rfl hc13m trivial
  refine stepCallIn hK 20 #[.slice (some ⟨b6, 0, none⟩) 1 1, .slice none 0 0, .int .i64 1, .func (.func 31) #[] #[], .func (.func 32) #[] #[]] (by kernel_rfl) (run_callE en_ast_walk rfl rfl (by kernel_rfl)) (hc13) ?_
  rintro ⟨r14, q15⟩ a w ⟨hR16, -⟩ hK hM
  replace hM := hM.to [.row b6 36 [.int .i64 e.op, .int .i64 e.num, Str e.nm, .slice e.A e.ks.length e.c], .row x2 61 [.func (.func 65) #[] #[.pointer (some ⟨z4, 0, none⟩)]], .row y3 61 [.func (.func 65) #[] #[.pointer (some ⟨z4, 0, none⟩)]], .row z4 3 [.int .i64 ((q9 : Nat) : Int)], .row b1 36 [.int .i64 e.op, .int .i64 e.num, Str e.nm, .slice e.A e.ks.length e.c]] (by kernel_rfl)
  rcases Bool.eq_false_or_eq_true (!r14) with h18 | h18
  ·refine stepP hK 21 (.bool true) (by kernel_rfl) (okBool (b := (!r14)) (by kernel_rfl) h18) fun a hK => ?_
   refine stepM hK 18 21 (by kernel_rfl) (.inr rfl) rfl fun a hK => ?_
   refine region_done hK [(18, .bool true), (12, .bool false), (5, .slice (some ⟨b6, 0, none⟩) 1 1), (4, .func (.func 71) #[] #[.pointer (some ⟨y3, 0, none⟩)]), (3, .func (.func 70) #[] #[.pointer (some ⟨x2, 0, none⟩)]), (2, .int .i64 0), (1, .pointer (some ⟨b1, 0, none⟩)), (0, .agg #[.int .i64 e.op, .int .i64 e.num, Str e.nm, .slice e.A e.ks.length e.c])] ⟨rfl, rfl, rfl, rfl, rfl, rfl, rfl, rfl, trivial⟩ fun a hK => ?_
   refine wp_cond_true (hK.get rfl) ?_
   refine wp_seq ?_
   refine region_go (lst := [0]) (by kernel_rfl) ?_
   refine stepP hK 2 (.int .i64 2) (by kernel_rfl) (by kernel_rfl) fun a hK => ?_
   refine region_done hK [(2, .int .i64 2), (18, .bool true), (12, .bool false), (5, .slice (some ⟨b6, 0, none⟩) 1 1), (4, .func (.func 71) #[] #[.pointer (some ⟨y3, 0, none⟩)]), (3, .func (.func 70) #[] #[.pointer (some ⟨x2, 0, none⟩)]), (1, .pointer (some ⟨b1, 0, none⟩)), (0, .agg #[.int .i64 e.op, .int .i64 e.num, Str e.nm, .slice e.A e.ks.length e.c])] ⟨rfl, rfl, rfl, rfl, rfl, rfl, rfl, rfl, trivial⟩ fun a hK => ?_
   refine wp_ret ?_
   exact ret_t hK rfl (u := (.int .i64 2)) rfl (⟨by unfold chkE; rw [lim_che hR10, h12, if_neg (by decide), ← may_che hR16, bf_of h18, if_neg (by decide)], hM.below⟩)
  ·refine stepP hK 21 (.bool false) (by kernel_rfl) (okBool (b := (!r14)) (by kernel_rfl) h18) fun a hK => ?_
   refine stepM hK 18 21 (by kernel_rfl) (.inr rfl) rfl fun a hK => ?_
   refine region_done hK [(18, .bool false), (12, .bool false), (5, .slice (some ⟨b6, 0, none⟩) 1 1), (4, .func (.func 71) #[] #[.pointer (some ⟨y3, 0, none⟩)]), (3, .func (.func 70) #[] #[.pointer (some ⟨x2, 0, none⟩)]), (2, .int .i64 0), (1, .pointer (some ⟨b1, 0, none⟩)), (0, .agg #[.int .i64 e.op, .int .i64 e.num, Str e.nm, .slice e.A e.ks.length e.c])] ⟨rfl, rfl, rfl, rfl, rfl, rfl, rfl, rfl, trivial⟩ fun a hK => ?_
   refine wp_cond_false (hK.get rfl) ?_
   refine wp_skip ?_
   refine wp_seq ?_
   refine region_go (lst := [0]) (by kernel_rfl) ?_
   refine stepP hK 2 (.int .i64 0) (by kernel_rfl) (by kernel_rfl) fun a hK => ?_
   refine region_done hK [(2, .int .i64 0), (18, .bool false), (12, .bool false), (5, .slice (some ⟨b6, 0, none⟩) 1 1), (4, .func (.func 71) #[] #[.pointer (some ⟨y3, 0, none⟩)]), (3, .func (.func 70) #[] #[.pointer (some ⟨x2, 0, none⟩)]), (1, .pointer (some ⟨b1, 0, none⟩)), (0, .agg #[.int .i64 e.op, .int .i64 e.num, Str e.nm, .slice e.A e.ks.length e.c])] ⟨rfl, rfl, rfl, rfl, rfl, rfl, rfl, rfl, trivial⟩ fun a hK => ?_
   refine wp_ret ?_
   exact ret_t hK rfl (u := (.int .i64 0)) rfl (⟨by unfold chkE; rw [lim_che hR10, h12, if_neg (by decide), ← may_che hR16, bt_of h18, if_pos rfl], hM.below⟩)
end Go.Proofs.YtmfiiapmkidmkaaDoor
