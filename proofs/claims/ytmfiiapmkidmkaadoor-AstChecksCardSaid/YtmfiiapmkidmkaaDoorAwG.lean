/-
  Kinds of package ast.
-/
import Derived.Test.YtmfiiapmkidmkaaDoorDR
import Derived.Test.YtmfiiapmkidmkaaDoorAwE
namespace Go.Proofs.YtmfiiapmkidmkaaDoor
open Go Go.RowKit

theorem en_ast_Kinds : Enters Tryd.prog 27 := enters_of Tryd.func27 (by kernel_rfl) rfl
theorem en_ast_Kinds_1 : Enters Tryd.prog 62 := enters_of Tryd.func62 (by kernel_rfl) rfl
theorem en_ast_Kinds_2 : Enters Tryd.prog 63 := enters_of Tryd.func63 (by kernel_rfl) rfl
def trueD (_d : Nat) (c : Int → Nat) : Bool × (Int → Nat) := (true, c)
def kindS (s : Sm) (_d : Nat) (c : Int → Nat) : Bool × (Int → Nat) := (true, bumpK s.kind c)
def okK (k : Nat) (c : Int → Nat) : Prop := ∀ j, c j + k ≤ 1000000
set_option maxRecDepth 100000 in
set_option maxHeartbeats 4000000 in
theorem step_k1 (w0 : World) (G : (Int → Nat) → List It) : StepD w0 G okK trueD 62 #[] := by
  refine ⟨en_ast_Kinds_1, ?_, fun d k s h1 _ => fun j => by have := h1 j; show s j + k ≤ _; omega⟩
  intro d k s F w1 hM0 hd hok
  refine calls_KM (args := [.int .i64 ((d : Nat) : Int)]) (n := 3) (env := [(0, .int .i64 ((d : Nat) : Int))]) Tryd.func62 rfl rfl rfl ⟨rfl, trivial⟩ hM0 fun a w hK hM => ?_
  refine wp_seq ?_
  refine region_go (lst := [0]) (by kernel_rfl) ?_
  refine stepP hK 2 (.bool false) (by kernel_rfl) (by kernel_rfl) fun a hK => ?_
  refine region_done hK [(2, .bool false)] ⟨rfl, trivial⟩ fun a hK => ?_
  refine wp_seq ?_
  refine region_go (lst := [0]) (by kernel_rfl) ?_
  refine stepP hK 2 (.bool true) (by kernel_rfl) (by kernel_rfl) fun a hK => ?_
  refine region_done hK [(2, .bool true)] ⟨rfl, trivial⟩ fun a hK => ?_
  refine wp_ret ?_
  exact ret_t hK rfl (u := (.bool true)) rfl (⟨(true, s), rfl, hM, rfl⟩)
set_option maxRecDepth 100000 in
set_option maxHeartbeats 4000000 in
theorem step_k2 (w0 : World) (bx bl : Nat) : StepS w0 (fun c => [.row bx 53 [.slice (some ⟨bl, 0, none⟩) 11 11], .row bl 3 (kL c)]) okK kindS 63 #[.pointer (some ⟨bx, 0, none⟩)] := by
  refine ⟨en_ast_Kinds_2, ?_, fun e d k c h1 _ => fun j => by have := h1 j; show bumpK e.kind c j + k ≤ _; unfold bumpK; split <;> omega⟩
  intro e d k c F w1 hM0 he hs hd hok
  replace hM0 : Mem w0 w1 ((.row bx 53 [.slice (some ⟨bl, 0, none⟩) 11 11] :: .row bl 3 (kL c) :: F)) := hM0
  refine calls_KM (args := [.agg #[.int .i64 e.kind, Str e.nm, Str e.loc, .int .i64 e.ord, .slice e.A1 e.es.length e.c1, .slice e.A2 e.th.length e.c2, .slice e.A3 e.el.length e.c3], .int .i64 ((d : Nat) : Int), .pointer (some ⟨bx, 0, none⟩)]) (n := 17) (env := [(0, .agg #[.int .i64 e.kind, Str e.nm, Str e.loc, .int .i64 e.ord, .slice e.A1 e.es.length e.c1, .slice e.A2 e.th.length e.c2, .slice e.A3 e.el.length e.c3]), (1, .int .i64 ((d : Nat) : Int)), (2, .pointer (some ⟨bx, 0, none⟩))]) Tryd.func63 rfl rfl rfl ⟨rfl, rfl, rfl, trivial⟩ hM0 fun a w hK hM => ?_
  refine wp_seq ?_
  refine region_go (lst := [0, 1]) (by kernel_rfl) ?_
  refine stepAlloc hK hM 3 30 [.int .i64 e.kind, Str e.nm, Str e.loc, .int .i64 e.ord, .slice e.A1 e.es.length e.c1, .slice e.A2 e.th.length e.c2, .slice e.A3 e.el.length e.c3] (fun b => .pointer (some ⟨b, 0, none⟩)) (by kernel_rfl) (by kernel_rfl) fun b1 a w hK hM => ?_
  refine stepP hK 5 (.bool false) (by kernel_rfl) (by kernel_rfl) fun a hK => ?_
  refine region_done hK [(5, .bool false), (3, .pointer (some ⟨b1, 0, none⟩)), (0, .agg #[.int .i64 e.kind, Str e.nm, Str e.loc, .int .i64 e.ord, .slice e.A1 e.es.length e.c1, .slice e.A2 e.th.length e.c2, .slice e.A3 e.el.length e.c3]), (2, .pointer (some ⟨bx, 0, none⟩))] ⟨rfl, rfl, rfl, rfl, trivial⟩ fun a hK => ?_
  refine wp_seq ?_
  refine wp_seq ?_
  refine region_go (lst := [0, 1, 2]) (by kernel_rfl) ?_
  refine stepP hK 6 (.pointer (some ⟨b1, 0, none⟩)) (by kernel_rfl) (by kernel_rfl) fun a hK => ?_
  refine stepLoad hK 7 (.int .i64 e.kind) (by kernel_rfl) rfl rfl ((hM.row 0 rfl).cells 0 1) (by kernel_rfl) fun a hK => ?_
  rcases Bool.eq_false_or_eq_true (ptIs e.kind) with h2 | h2
  · refine stepRet hK hM 8 #[.int .i64 e.kind] (.bool true) (by kernel_rfl) (run_callE en_ast_isKind rfl rfl (by kernel_rfl)) (ret_eq (ast_isKind e.kind _) (congrArg Value.bool h2)) fun a w hK hM => ?_
    refine region_done hK [(8, .bool true), (5, .bool false), (3, .pointer (some ⟨b1, 0, none⟩)), (0, .agg #[.int .i64 e.kind, Str e.nm, Str e.loc, .int .i64 e.ord, .slice e.A1 e.es.length e.c1, .slice e.A2 e.th.length e.c2, .slice e.A3 e.el.length e.c3]), (2, .pointer (some ⟨bx, 0, none⟩))] ⟨rfl, rfl, rfl, rfl, rfl, trivial⟩ fun a hK => ?_
    refine wp_cond_true (hK.get rfl) ?_
    have hk2 : 1 ≤ e.kind ∧ e.kind ≤ 11 := by have := h2; unfold ptIs at this; simpa using this
    refine region_go (lst := [0, 1, 2, 3, 4, 5, 6, 7, 8]) (by kernel_rfl) ?_
    refine stepLoad hK 9 (.slice (some ⟨bl, 0, none⟩) 11 11) (by kernel_rfl) rfl rfl ((hM.row 1 rfl).cells 0 1) (by kernel_rfl) fun a hK => ?_
    refine stepP hK 10 (.pointer (some ⟨b1, 0, none⟩)) (by kernel_rfl) (by kernel_rfl) fun a hK => ?_
    refine stepLoad hK 11 (.int .i64 e.kind) (by kernel_rfl) rfl rfl ((hM.row 0 rfl).cells 0 1) (by kernel_rfl) fun a hK => ?_
    refine stepP hK 12 (.int .i64 (((e.kind - 1).toNat : Nat) : Int)) (by kernel_rfl) (okVal (run_subZ rfl rfl rfl (by omega) (by omega)) (congrArg (Value.int .i64) (by omega))) fun a hK => ?_
    refine stepP hK 13 (.pointer (some ⟨bl, (e.kind - 1).toNat * 1, none⟩)) (by kernel_rfl) (run_ixG (k := (e.kind - 1).toNat) (s := 1) rfl rfl rfl Tryd.underlying53 (by kernel_rfl) (by omega)) fun a hK => ?_
    refine stepLoad hK 14 (.int .i64 (((c e.kind) : Nat) : Int)) (by kernel_rfl) rfl rfl (((hM.row 2 rfl).cells ((e.kind - 1).toNat * 1) 1).to (kL_at hk2 c)) (by kernel_rfl) fun a hK => ?_
    refine stepP hK 15 (.int .i64 ((((c e.kind) + 1) : Nat) : Int)) (by kernel_rfl) (run_addN (i := (c e.kind)) (j := 1) rfl rfl rfl (by have := hok e.kind; omega)) fun a hK => ?_
    refine stepP hK 16 (.pointer (some ⟨bl, (e.kind - 1).toNat * 1, none⟩)) (by kernel_rfl) (run_ixG (k := (e.kind - 1).toNat) (s := 1) rfl rfl rfl Tryd.underlying53 (by kernel_rfl) (by omega)) fun a hK => ?_
    refine stepStoreAt hK hM 2 [.int .i64 ((((c e.kind) + 1) : Nat) : Int)] (kL (bumpK e.kind c)) (by kernel_rfl) rfl rfl rfl rfl (by kernel_rfl) rfl rfl (by simp [kL]; omega) (kL_put hk2 c) fun w hM => ?_
    replace hM := hM.to ((.row b1 30 [.int .i64 e.kind, Str e.nm, Str e.loc, .int .i64 e.ord, .slice e.A1 e.es.length e.c1, .slice e.A2 e.th.length e.c2, .slice e.A3 e.el.length e.c3] :: .row bx 53 [.slice (some ⟨bl, 0, none⟩) 11 11] :: .row bl 3 (kL (bumpK e.kind c)) :: F)) (by kernel_rfl)
    refine region_done hK [(8, .bool true), (5, .bool false), (3, .pointer (some ⟨b1, 0, none⟩)), (0, .agg #[.int .i64 e.kind, Str e.nm, Str e.loc, .int .i64 e.ord, .slice e.A1 e.es.length e.c1, .slice e.A2 e.th.length e.c2, .slice e.A3 e.el.length e.c3]), (2, .pointer (some ⟨bx, 0, none⟩))] ⟨rfl, rfl, rfl, rfl, rfl, trivial⟩ fun a hK => ?_
    refine wp_seq ?_
    refine region_go (lst := [0]) (by kernel_rfl) ?_
    refine stepP hK 5 (.bool true) (by kernel_rfl) (by kernel_rfl) fun a hK => ?_
    refine region_done hK [(5, .bool true), (8, .bool true), (3, .pointer (some ⟨b1, 0, none⟩)), (0, .agg #[.int .i64 e.kind, Str e.nm, Str e.loc, .int .i64 e.ord, .slice e.A1 e.es.length e.c1, .slice e.A2 e.th.length e.c2, .slice e.A3 e.el.length e.c3]), (2, .pointer (some ⟨bx, 0, none⟩))] ⟨rfl, rfl, rfl, rfl, rfl, trivial⟩ fun a hK => ?_
    refine wp_ret ?_
    exact ret_t hK rfl (u := (.bool true)) rfl (⟨(true, bumpK e.kind c), rfl, hM.drop 1, rfl⟩)
  · refine stepRet hK hM 8 #[.int .i64 e.kind] (.bool false) (by kernel_rfl) (run_callE en_ast_isKind rfl rfl (by kernel_rfl)) (ret_eq (ast_isKind e.kind _) (congrArg Value.bool h2)) fun a w hK hM => ?_
    refine region_done hK [(8, .bool false), (5, .bool false), (3, .pointer (some ⟨b1, 0, none⟩)), (0, .agg #[.int .i64 e.kind, Str e.nm, Str e.loc, .int .i64 e.ord, .slice e.A1 e.es.length e.c1, .slice e.A2 e.th.length e.c2, .slice e.A3 e.el.length e.c3]), (2, .pointer (some ⟨bx, 0, none⟩))] ⟨rfl, rfl, rfl, rfl, rfl, trivial⟩ fun a hK => ?_
    refine wp_cond_false (hK.get rfl) ?_
    refine wp_skip ?_
    refine wp_seq ?_
    refine region_go (lst := [0]) (by kernel_rfl) ?_
    refine stepP hK 5 (.bool true) (by kernel_rfl) (by kernel_rfl) fun a hK => ?_
    refine region_done hK [(5, .bool true), (8, .bool false), (3, .pointer (some ⟨b1, 0, none⟩)), (0, .agg #[.int .i64 e.kind, Str e.nm, Str e.loc, .int .i64 e.ord, .slice e.A1 e.es.length e.c1, .slice e.A2 e.th.length e.c2, .slice e.A3 e.el.length e.c3]), (2, .pointer (some ⟨bx, 0, none⟩))] ⟨rfl, rfl, rfl, rfl, rfl, trivial⟩ fun a hK => ?_
    refine wp_ret ?_
    exact ret_t hK rfl (u := (.bool true)) rfl (⟨(true, bumpK e.kind c), rfl, (hM.drop 1).to _ (by show _ = _ :: .row bl _ (kL (bumpK e.kind c)) :: F; rw [kL_out (fun h9 => by have h8 := h2; unfold ptIs at h8; rw [decide_eq_true h9.1, decide_eq_true h9.2] at h8; cases h8)]; rfl), rfl⟩)
theorem true_exs (l : List Ex) (d : Nat) (c : Int → Nat) : exsWk (fun _ d s => trueD d s) l d c = (true, c) := by
  have key : ∀ (e : Ex) (d : Nat) (c : Int → Nat), e.wk (fun _ d s => trueD d s) d c = (true, c) := by
    intro e
    induction e using Ex.rec_on with
    | h e ih =>
      intro d c
      rw [ex_wk]
      show andW (true, c) _ = _
      rw [andW_t]
      have : ∀ (l : List Ex) (d : Nat), (∀ x ∈ l, ∀ (d : Nat) (c : Int → Nat), x.wk (fun _ d s => trueD d s) d c = (true, c)) → exsWk (fun _ d s => trueD d s) l d c = (true, c) := by
        intro l
        induction l with
        | nil => intro d _; rw [exsWk]
        | cons x r ih2 => intro d h; rw [exsWk, h x List.mem_cons_self, andW_t, ih2 d fun y hy => h y (List.mem_cons_of_mem _ hy)]
      exact this e.ks _ ih
  induction l with
  | nil => rw [exsWk]
  | cons x r ih => rw [exsWk, key, andW_t, ih]
theorem kind_sms0 (l : List Sm) : ∀ (d : Nat) (c : Int → Nat), smsWk (fun _ d s => trueD d s) kindS l d c = (true, fun j => c j + smsCt j l) := by
  induction l using sms_rec with
  | h l ih =>
    induction l with
    | nil => intro d c; rw [smsWk]; exact congrArg (Prod.mk true) (funext fun j => by rw [smsCt]; rfl)
    | cons y r ih2 =>
      intro d c
      obtain ⟨h1, h2⟩ := ih y List.mem_cons_self
      rw [smsWk, sm_wk]
      show andW (andW (true, bumpK y.kind c) _) _ = _
      rw [andW_t, walkW_go (true_exs _ _ _), h1, andW_t, h2, andW_t, ih2 fun s hs => ih s (List.mem_cons_of_mem _ hs)]
      refine congrArg (Prod.mk true) (funext fun j => ?_)
      rw [smsCt, sm_ct]
      unfold bumpK
      omega
theorem kind_sms (l : List Sm) : walkW (fun _ d s => trueD d s) kindS [] l 1 (fun _ => 0) = (true, fun j => smsCt j l) := by
  rw [walkW_s, kind_sms0]
  exact congrArg (Prod.mk true) (funext fun j => Nat.zero_add _)
set_option maxRecDepth 100000 in
set_option maxHeartbeats 4000000 in
theorem ast_Kinds {A : Option Addr} {c : Nat} (l : List Sm) (w0 : World) (hl : SmsAt w0 A l) (hsz : smsSz l ≤ 100000) (hsh : smsSh l = true) : Calls Tryd.prog 27 #[.slice A l.length c] w0 (Gives w0 (fun b : Nat => .slice (some ⟨b, 0, none⟩) 11 11) (fun b => [.row b 3 (kL fun j => smsCt j l)]) fun _ => True) := by
  refine calls_K (args := [.slice A l.length c]) (n := 10) (env := [(0, .slice A l.length c)]) Tryd.func27 rfl rfl rfl ⟨rfl, trivial⟩ fun a w hK hM => ?_
  refine wp_seq ?_
  refine region_go (lst := [0]) (by kernel_rfl) ?_
  refine stepP hK 2 (.slice none 0 0) (by kernel_rfl) (by kernel_rfl) fun a hK => ?_
  refine region_done hK [(2, .slice none 0 0), (0, .slice A l.length c)] ⟨rfl, rfl, trivial⟩ fun a hK => ?_
  refine wp_seq ?_
  refine region_go (lst := [0, 1, 2]) (by kernel_rfl) ?_
  refine stepMake hK hM 4 [.int .i64 0] 11 8 Tryd.underlying53 (by kernel_rfl) (by kernel_rfl) rfl rfl rfl (by omega) fun b1 a w hK hM => ?_
  refine stepAlloc hK hM 3 53 [.slice none 0 0] (fun b => .pointer (some ⟨b, 0, none⟩)) (by kernel_rfl) (by kernel_rfl) fun b2 a w hK hM => ?_
  refine stepStore hK hM 0 [.slice (some ⟨b1, 0, none⟩) 11 11] (by kernel_rfl) rfl rfl rfl rfl (by kernel_rfl) fun w hM => ?_
  replace hM := hM.to [.row b2 53 [.slice (some ⟨b1, 0, none⟩) 11 11], .row b1 3 (zerosL 11 [.int .i64 0])] (by kernel_rfl)
  refine region_done hK [(3, .pointer (some ⟨b2, 0, none⟩)), (2, .slice none 0 0), (0, .slice A l.length c)] ⟨rfl, rfl, rfl, trivial⟩ fun a hK => ?_
  refine wp_seq ?_
  refine region_go (lst := [0, 1, 2, 3]) (by kernel_rfl) ?_
  refine stepM hK 5 0 (by kernel_rfl) (.inl rfl) rfl fun a hK => ?_
  refine stepCall hK hM 6 #[.func (.func 62) #[] #[]] (by kernel_rfl) (run_callE en_ast_anyExpr rfl rfl (by kernel_rfl)) (ast_anyExpr 62 #[] _) ?_
  rintro b3 a w - hK hM
  refine stepP hK 7 (.func (.func 63) #[] #[.pointer (some ⟨b2, 0, none⟩)]) (by kernel_rfl) (by kernel_rfl) fun a hK => ?_
  have hc5m : Mem w0 _ [.row b3 61 [.func (.func 62) #[] #[]], .row b2 53 [.slice (some ⟨b1, 0, none⟩) 11 11], .row b1 3 (zerosL 11 [.int .i64 0])] := hM
  have hc5 := ast_walk (any_expr1 (step_k1 _ (fun c => [.row b2 53 [.slice (some ⟨b1, 0, none⟩) 11 11], .row b1 3 (kL c)])) b3) (StepS.more (step_k2 _ b2 b1) [.row b3 61 [.func (.func 62) #[] #[]]]) [] l none 0 A c 1 0 (fun _ => 0) [] _ (by simp only [exsSz]; omega) (fun s F w h => ⟨fun k x hx => by simp at hx, hl.on h.below⟩) rfl hsh (hc5m.to _ (by rfl)) (by intro j; simp only [exsSz]; omega)
  refine stepCallIn hK 8 #[.slice none 0 0, .slice A l.length c, .int .i64 1, .func (.func 70) #[] #[.pointer (some ⟨b3, 0, none⟩)], .func (.func 63) #[] #[.pointer (some ⟨b2, 0, none⟩)]] (by kernel_rfl) (run_callE en_ast_walk rfl rfl (by kernel_rfl)) (hc5) ?_
  rintro ⟨r6, q7⟩ a w ⟨hR8, -⟩ hK hM
  replace hM := hM.to [.row b3 61 [.func (.func 62) #[] #[]], .row b2 53 [.slice (some ⟨b1, 0, none⟩) 11 11], .row b1 3 (kL q7)] (by kernel_rfl)
  refine region_done hK [(3, .pointer (some ⟨b2, 0, none⟩)), (2, .slice none 0 0), (0, .slice A l.length c)] ⟨rfl, rfl, rfl, trivial⟩ fun a hK => ?_
  refine wp_seq ?_
  refine region_go (lst := [0, 1]) (by kernel_rfl) ?_
  refine stepLoad hK 9 (.slice (some ⟨b1, 0, none⟩) 11 11) (by kernel_rfl) rfl rfl ((hM.row 1 rfl).cells 0 1) (by kernel_rfl) fun a hK => ?_
  refine stepM hK 2 9 (by kernel_rfl) (.inr rfl) rfl fun a hK => ?_
  refine region_done hK [(2, .slice (some ⟨b1, 0, none⟩) 11 11), (3, .pointer (some ⟨b2, 0, none⟩)), (0, .slice A l.length c)] ⟨rfl, rfl, rfl, trivial⟩ fun a hK => ?_
  refine wp_ret ?_
  exact ret_t hK rfl (u := (.slice (some ⟨b1, 0, none⟩) 11 11)) rfl (⟨b1, rfl, (((hM.order [[.row b3 61 [.func (.func 62) #[] #[]]], [.row b2 53 [.slice (some ⟨b1, 0, none⟩) 11 11]], [.row b1 3 (kL q7)]] [2, 0, 1] 3 rfl (by simp) (by decide) ([.row b1 3 (kL q7), .row b3 61 [.func (.func 62) #[] #[]], .row b2 53 [.slice (some ⟨b1, 0, none⟩) 11 11]]) (by simp))).pick 0 rfl).to _ (by rw [show q7 = fun j => smsCt j l from (congrArg Prod.snd hR8).trans (congrArg Prod.snd (kind_sms l))]), trivial⟩)
end Go.Proofs.YtmfiiapmkidmkaaDoor
