/-
  What AstCopyCard stands on, part 6.
-/
import Derived.Test.YtiigncmpbkfhmaaDoorPk5
namespace Go.Proofs.YtiigncmpbkfhmaaDoor
open Go Go.RowKit
theorem en_ast_Regs : Enters Tryd.prog 25 := enters_of Tryd.func25 (by kernel_rfl) rfl
theorem en_ast_Regs_1 : Enters Tryd.prog 55 := enters_of Tryd.func55 (by kernel_rfl) rfl
theorem en_ast_Regs_2 : Enters Tryd.prog 56 := enters_of Tryd.func56 (by kernel_rfl) rfl
theorem en_ast_Regs_3 : Enters Tryd.prog 57 := enters_of Tryd.func57 (by kernel_rfl) rfl
theorem en_mKeys : Enters Tryd.prog 60 := enters_of Tryd.func60 (by kernel_rfl) rfl
theorem en_sSorted : Enters Tryd.prog 59 := enters_of Tryd.func59 (by kernel_rfl) rfl
theorem en_eachS : Enters Tryd.prog 58 := enters_of Tryd.func58 (by kernel_rfl) rfl
def noteE (e : Ex) (_d : Nat) (ks : List (List UInt8)) : Bool × List (List UInt8) := (true, if e.op = 2 then noteL e.nm ks else ks)
def noteS (s : Sm) (_d : Nat) (ks : List (List UInt8)) : Bool × List (List UInt8) := (true, noteL s.nm ks)
def okR (k : Nat) (ks : List (List UInt8)) : Prop := ks.length + k ≤ 1000000 ∧ ks.Nodup
theorem okR_note {k : Nat} {ks : List (List UInt8)} (h : okR (k + 1) ks) (s : List UInt8) : okR k (noteL s ks) := by
 refine ⟨?_, noteL_nodup h.2⟩
 have := h.1
 unfold noteL
 split
 ·omega
 ·split
  ·omega
  ·rw [List.length_append, List.length_singleton]; omega
set_option maxRecDepth 100000 in
set_option maxHeartbeats 4000000 in
theorem ast_note (s : List UInt8) (bx bm : Nat) (ks : List (List UInt8)) (F : List It) (w0 w1 : World) (hM0 : Mem w0 w1 ((.row bx 78 [.map (some bm)] :: .obj bm (setObjS ks) :: F))) : Calls Tryd.prog 55 #[Str s, pA bx 0] w1 (Gives w0 (fun _ : List (List UInt8) => .bool true) (fun ks' => (.row bx 78 [.map (some bm)] :: .obj bm (setObjS ks') :: F)) fun ks' => ks' = noteL s ks) := by
 refine calls_KM (args := [Str s, pA bx 0]) (n := 9) (env := [(0, Str s), (1, pA bx 0)]) Tryd.func55 rfl rfl rfl ⟨rfl, rfl, trivial⟩ hM0 fun a w hK hM => ?_
 refine wp_seq ?_
 refine region_go (lst := [0]) (by kernel_rfl) ?_
 refine stepP hK 3 (.bool false) (by kernel_rfl) (by kernel_rfl) fun a hK => ?_
 refine region_done hK [(3, .bool false), (0, Str s), (1, pA bx 0)] ⟨rfl, rfl, rfl, trivial⟩ fun a hK => ?_
 refine wp_seq ?_
 refine wp_seq ?_
 refine region_go (lst := [0, 1]) (by kernel_rfl) ?_
 refine stepM hK 4 0 (by kernel_rfl) (.inl rfl) rfl fun a hK => ?_
 rcases Bool.eq_false_or_eq_true (!(decide (s = []))) with h1 | h1
 ·refine stepP hK 5 (.bool true) (by kernel_rfl) (okBool (b := (!(decide (s = [])))) (run_neS rfl rfl rfl) h1) fun a hK => ?_
  refine region_done hK [(5, .bool true), (3, .bool false), (0, Str s), (1, pA bx 0)] ⟨rfl, rfl, rfl, rfl, trivial⟩ fun a hK => ?_
  refine wp_cond_true (hK.get rfl) ?_
  refine region_go (lst := [0, 1, 2, 3]) (by kernel_rfl) ?_
  refine stepLoad hK 6 (.map (some bm)) (by kernel_rfl) rfl rfl ((hM.row 0 rfl).cells 0 1) (by kernel_rfl) fun a hK => ?_
  refine stepM hK 7 0 (by kernel_rfl) (.inl rfl) rfl fun a hK => ?_
  refine stepP hK 8 (.agg #[]) (by kernel_rfl) (by kernel_rfl) fun a hK => ?_
  refine stepSetObj hK hM 1 (setObjS (noteL s ks)) (by kernel_rfl) rfl (run_updS rfl rfl rfl rfl (by have h9 := h1; simpa using h9) (hM.obj 1 rfl)) fun w hM => ?_
  replace hM := hM.to (.row bx 78 [.map (some bm)] :: .obj bm (setObjS (noteL s ks)) :: F) (by kernel_rfl)
  refine region_done hK [(5, .bool true), (3, .bool false), (0, Str s), (1, pA bx 0)] ⟨rfl, rfl, rfl, rfl, trivial⟩ fun a hK => ?_
  refine wp_seq ?_
  refine region_go (lst := [0]) (by kernel_rfl) ?_
  refine stepP hK 3 (.bool true) (by kernel_rfl) (by kernel_rfl) fun a hK => ?_
  refine region_done hK [(3, .bool true), (5, .bool true), (0, Str s), (1, pA bx 0)] ⟨rfl, rfl, rfl, rfl, trivial⟩ fun a hK => ?_
  refine wp_ret ?_
  exact ret_t hK rfl (u := (.bool true)) rfl (⟨noteL s ks, rfl, hM, rfl⟩)
 ·refine stepP hK 5 (.bool false) (by kernel_rfl) (okBool (b := (!(decide (s = [])))) (run_neS rfl rfl rfl) h1) fun a hK => ?_
  refine region_done hK [(5, .bool false), (3, .bool false), (0, Str s), (1, pA bx 0)] ⟨rfl, rfl, rfl, rfl, trivial⟩ fun a hK => ?_
  refine wp_cond_false (hK.get rfl) ?_
  refine wp_skip ?_
  refine wp_seq ?_
  refine region_go (lst := [0]) (by kernel_rfl) ?_
  refine stepP hK 3 (.bool true) (by kernel_rfl) (by kernel_rfl) fun a hK => ?_
  refine region_done hK [(3, .bool true), (5, .bool false), (0, Str s), (1, pA bx 0)] ⟨rfl, rfl, rfl, rfl, trivial⟩ fun a hK => ?_
  refine wp_ret ?_
  exact ret_t hK rfl (u := (.bool true)) rfl (⟨ks, rfl, hM, by unfold noteL; rw [if_pos (by have h9 := h1; simpa using h9)]⟩)
set_option maxRecDepth 100000 in
set_option maxHeartbeats 4000000 in
theorem step_rE (w0 : World) (bn bx bm : Nat) : StepE w0 (fun ks => [.row bn 66 [.func (.func 55) #[] #[pA bx 0]], .row bx 78 [.map (some bm)], .obj bm (setObjS ks)]) okR noteE 56 #[pA bn 0] := by
 refine ⟨en_ast_Regs_2, ?_, fun e d k ks h1 _ => by unfold noteE; show okR k (if e.op = 2 then _ else _); split; exact okR_note h1 _; exact ⟨by have := h1.1; omega, h1.2⟩⟩
 intro e d k ks F w1 hM0 he hs hd hok
 replace hM0 : Mem w0 w1 ((.row bn 66 [.func (.func 55) #[] #[pA bx 0]] :: .row bx 78 [.map (some bm)] :: .obj bm (setObjS ks) :: F)) := hM0
 refine calls_KM (args := [vE e, vN d, pA bn 0]) (n := 15) (env := [(0, vE e), (1, vN d), (2, pA bn 0)]) Tryd.func56 rfl rfl rfl ⟨rfl, rfl, rfl, trivial⟩ hM0 fun a w hK hM => ?_
 refine wp_seq ?_
 refine region_go (lst := [0, 1]) (by kernel_rfl) ?_
 refine stepAlloc hK hM 3 36 (cE e) (fun b => pA b 0) (by kernel_rfl) (by kernel_rfl) fun b1 a w hK hM => ?_
 refine stepP hK 5 (.bool false) (by kernel_rfl) (by kernel_rfl) fun a hK => ?_
 refine region_done hK [(5, .bool false), (3, pA b1 0), (0, vE e), (2, pA bn 0)] ⟨rfl, rfl, rfl, rfl, trivial⟩ fun a hK => ?_
 refine wp_seq ?_
 refine region_go (lst := [0, 1, 2, 3, 4, 5, 6, 7, 8, 9]) (by kernel_rfl) ?_
 refine stepP hK 6 (pA b1 0) (by kernel_rfl) (by kernel_rfl) fun a hK => ?_
 refine stepLoad hK 7 (.int .i64 e.op) (by kernel_rfl) rfl rfl ((hM.row 0 rfl).cells 0 1) (by kernel_rfl) fun a hK => ?_
 rcases Bool.eq_false_or_eq_true (!(decide ((e.op : Int) = 2))) with h2 | h2
 ·refine stepP hK 8 (.bool true) (by kernel_rfl) (okBool (b := (!(decide ((e.op : Int) = 2)))) (by kernel_rfl) h2) fun a hK => ?_
  refine stepM hK 9 8 (by kernel_rfl) (.inl rfl) rfl fun a hK => ?_
  refine stepN hK 10 (by kernel_rfl) fun a hK => ?_
  refine stepN hK 11 (by kernel_rfl) fun a hK => ?_
  refine stepN hK 12 (by kernel_rfl) fun a hK => ?_
  refine stepN hK 13 (by kernel_rfl) fun a hK => ?_
  refine stepP hK 14 (.bool true) (by kernel_rfl) (by kernel_rfl) fun a hK => ?_
  refine stepM hK 5 14 (by kernel_rfl) (.inr rfl) rfl fun a hK => ?_
  refine region_done hK [(5, .bool true), (3, pA b1 0), (0, vE e), (2, pA bn 0)] ⟨rfl, rfl, rfl, rfl, trivial⟩ fun a hK => ?_
  refine wp_ret ?_
  exact ret_t hK rfl (u := (.bool true)) rfl (⟨(true, ks), rfl, (hM.drop 1), by unfold noteE; rw [if_neg (by have h9 := h2; simpa using h9)]⟩)
 ·refine stepP hK 8 (.bool false) (by kernel_rfl) (okBool (b := (!(decide ((e.op : Int) = 2)))) (by kernel_rfl) h2) fun a hK => ?_
  refine stepM hK 9 8 (by kernel_rfl) (.inl rfl) rfl fun a hK => ?_
  refine stepLoad hK 10 (.func (.func 55) #[] #[pA bx 0]) (by kernel_rfl) rfl rfl ((hM.row 1 rfl).cells 0 1) (by kernel_rfl) fun a hK => ?_
  refine stepP hK 11 (pA b1 2) (by kernel_rfl) (by kernel_rfl) fun a hK => ?_
  refine stepLoad hK 12 (Str e.nm) (by kernel_rfl) rfl rfl ((hM.row 0 rfl).cells 2 1) (by kernel_rfl) fun a hK => ?_
  have hc3m : Mem w0 _ (.row bx 78 [.map (some bm)] :: .obj bm (setObjS ks) :: .row b1 36 (cE e) :: .row bn 66 [.func (.func 55) #[] #[pA bx 0]] :: F) := (hM.order [[.row b1 36 (cE e)], [.row bn 66 [.func (.func 55) #[] #[pA bx 0]]], [.row bx 78 [.map (some bm)]], [.obj bm (setObjS ks)], F] [2, 3, 0, 1, 4] 5 rfl (by simp) (by decide) ((.row bx 78 [.map (some bm)] :: .obj bm (setObjS ks) :: .row b1 36 (cE e) :: .row bn 66 [.func (.func 55) #[] #[pA bx 0]] :: F)) (by simp))
  have hc3 := ast_note e.nm bx bm ks (.row b1 36 (cE e) :: .row bn 66 [.func (.func 55) #[] #[pA bx 0]] :: F) _ _ hc3m
  refine stepCallIn hK 13 #[Str e.nm, pA bx 0] (by kernel_rfl) (run_callE en_ast_Regs_1 rfl rfl (by kernel_rfl)) (hc3) ?_
  rintro k4 a w hR5 hK hM
  replace hM := hM.to (.row bx 78 [.map (some bm)] :: .obj bm (setObjS k4) :: .row b1 36 (cE e) :: .row bn 66 [.func (.func 55) #[] #[pA bx 0]] :: F) (by kernel_rfl)
  refine stepP hK 14 (.bool true) (by kernel_rfl) (by kernel_rfl) fun a hK => ?_
  refine stepM hK 5 14 (by kernel_rfl) (.inr rfl) rfl fun a hK => ?_
  refine region_done hK [(5, .bool true), (3, pA b1 0), (0, vE e), (2, pA bn 0)] ⟨rfl, rfl, rfl, rfl, trivial⟩ fun a hK => ?_
  refine wp_ret ?_
  exact ret_t hK rfl (u := (.bool true)) rfl (⟨(true, k4), rfl, ((hM.order [[.row bx 78 [.map (some bm)]], [.obj bm (setObjS k4)], [.row b1 36 (cE e)], [.row bn 66 [.func (.func 55) #[] #[pA bx 0]]], F] [2, 3, 0, 1, 4] 5 rfl (by simp) (by decide) ((.row b1 36 (cE e) :: .row bn 66 [.func (.func 55) #[] #[pA bx 0]] :: .row bx 78 [.map (some bm)] :: .obj bm (setObjS k4) :: F)) (by simp)).drop 1), by unfold noteE; rw [hR5, if_pos (by have h9 := h2; simpa using h9)]⟩)
set_option maxRecDepth 100000 in
set_option maxHeartbeats 4000000 in
theorem step_rS (w0 : World) (bn bx bm : Nat) : StepS w0 (fun ks => [.row bn 66 [.func (.func 55) #[] #[pA bx 0]], .row bx 78 [.map (some bm)], .obj bm (setObjS ks)]) okR noteS 57 #[pA bn 0] := by
 refine ⟨en_ast_Regs_3, ?_, fun e d k ks h1 _ => okR_note h1 _⟩
 intro e d k ks F w1 hM0 he hs hd hok
 replace hM0 : Mem w0 w1 ((.row bn 66 [.func (.func 55) #[] #[pA bx 0]] :: .row bx 78 [.map (some bm)] :: .obj bm (setObjS ks) :: F)) := hM0
 refine calls_KM (args := [vS e, vN d, pA bn 0]) (n := 10) (env := [(0, vS e), (1, vN d), (2, pA bn 0)]) Tryd.func57 rfl rfl rfl ⟨rfl, rfl, rfl, trivial⟩ hM0 fun a w hK hM => ?_
 refine wp_seq ?_
 refine region_go (lst := [0, 1]) (by kernel_rfl) ?_
 refine stepAlloc hK hM 3 30 (cS e) (fun b => pA b 0) (by kernel_rfl) (by kernel_rfl) fun b1 a w hK hM => ?_
 refine stepP hK 5 (.bool false) (by kernel_rfl) (by kernel_rfl) fun a hK => ?_
 refine region_done hK [(5, .bool false), (3, pA b1 0), (0, vS e), (2, pA bn 0)] ⟨rfl, rfl, rfl, rfl, trivial⟩ fun a hK => ?_
 refine wp_seq ?_
 refine region_go (lst := [0, 1, 2, 3, 4]) (by kernel_rfl) ?_
 refine stepLoad hK 6 (.func (.func 55) #[] #[pA bx 0]) (by kernel_rfl) rfl rfl ((hM.row 1 rfl).cells 0 1) (by kernel_rfl) fun a hK => ?_
 refine stepP hK 7 (pA b1 1) (by kernel_rfl) (by kernel_rfl) fun a hK => ?_
 refine stepLoad hK 8 (Str e.nm) (by kernel_rfl) rfl rfl ((hM.row 0 rfl).cells 1 1) (by kernel_rfl) fun a hK => ?_
 have hc2m : Mem w0 _ (.row bx 78 [.map (some bm)] :: .obj bm (setObjS ks) :: .row b1 30 (cS e) :: .row bn 66 [.func (.func 55) #[] #[pA bx 0]] :: F) := (hM.order [[.row b1 30 (cS e)], [.row bn 66 [.func (.func 55) #[] #[pA bx 0]]], [.row bx 78 [.map (some bm)]], [.obj bm (setObjS ks)], F] [2, 3, 0, 1, 4] 5 rfl (by simp) (by decide) ((.row bx 78 [.map (some bm)] :: .obj bm (setObjS ks) :: .row b1 30 (cS e) :: .row bn 66 [.func (.func 55) #[] #[pA bx 0]] :: F)) (by simp))
 have hc2 := ast_note e.nm bx bm ks (.row b1 30 (cS e) :: .row bn 66 [.func (.func 55) #[] #[pA bx 0]] :: F) _ _ hc2m
 refine stepCallIn hK 9 #[Str e.nm, pA bx 0] (by kernel_rfl) (run_callE en_ast_Regs_1 rfl rfl (by kernel_rfl)) (hc2) ?_
 rintro k3 a w hR4 hK hM
 replace hM := hM.to (.row bx 78 [.map (some bm)] :: .obj bm (setObjS k3) :: .row b1 30 (cS e) :: .row bn 66 [.func (.func 55) #[] #[pA bx 0]] :: F) (by kernel_rfl)
 refine stepM hK 5 9 (by kernel_rfl) (.inr rfl) rfl fun a hK => ?_
 refine region_done hK [(5, .bool true), (3, pA b1 0), (0, vS e), (2, pA bn 0)] ⟨rfl, rfl, rfl, rfl, trivial⟩ fun a hK => ?_
 refine wp_ret ?_
 exact ret_t hK rfl (u := (.bool true)) rfl (⟨(true, k3), rfl, ((hM.order [[.row bx 78 [.map (some bm)]], [.obj bm (setObjS k3)], [.row b1 30 (cS e)], [.row bn 66 [.func (.func 55) #[] #[pA bx 0]]], F] [2, 3, 0, 1, 4] 5 rfl (by simp) (by decide) ((.row b1 30 (cS e) :: .row bn 66 [.func (.func 55) #[] #[pA bx 0]] :: .row bx 78 [.map (some bm)] :: .obj bm (setObjS k3) :: F)) (by simp)).drop 1), by unfold noteS; rw [hR4]⟩)
section
variable {σ : Type} {I : σ → Prop} {f : Ex → Nat → σ → Bool × σ} {g : Sm → Nat → σ → Bool × σ}
theorem andW_inv {r : Bool × σ} {k : σ → Bool × σ} (h : I r.2) (hk : ∀ s, I s → I (k s).2) : I (andW r k).2 := by
 unfold andW
 split
 ·exact hk _ h
 ·exact h
theorem ex_inv (hf : ∀ e d s, e.sh = true → I s → I (f e d s).2) (e : Ex) : ∀ d s, e.sh = true → I s → I (e.wk f d s).2 := by
 induction e using Ex.rec_on with
 | h e ih =>
  intro d s hs h
  rw [ex_wk]
  refine andW_inv (hf _ _ _ hs h) fun s h => ?_
  have key : ∀ (l : List Ex) (d : Nat) (s : σ), (∀ x ∈ l, ∀ d s, x.sh = true → I s → I (x.wk f d s).2) → exsSh l = true → I s → I (exsWk f l d s).2 := by
   intro l
   induction l with
   | nil => intro d s _ _ h; rw [exsWk]; exact h
   | cons x r ih2 =>
    intro d s hx hs h
    rw [exsWk]
    rw [exsSh, Bool.and_eq_true] at hs
    exact andW_inv (hx x List.mem_cons_self d s hs.1 h) fun s h => ih2 d s (fun y hy => hx y (List.mem_cons_of_mem _ hy)) hs.2 h
  exact key e.ks _ s ih (ex_sh hs).2 h
theorem exs_inv (hf : ∀ e d s, e.sh = true → I s → I (f e d s).2) (l : List Ex) (d : Nat) (s : σ) (hs : exsSh l = true) (h : I s) : I (exsWk f l d s).2 := by
 induction l generalizing s with
 | nil => rw [exsWk]; exact h
 | cons x r ih =>
  rw [exsWk]
  rw [exsSh, Bool.and_eq_true] at hs
  exact andW_inv (ex_inv hf x d s hs.1 h) fun s h => ih s hs.2 h
theorem sms_inv (hf : ∀ e d s, e.sh = true → I s → I (f e d s).2) (hg : ∀ e d s, e.sh = true → I s → I (g e d s).2) (l : List Sm) : ∀ d s, smsSh l = true → I s → I (smsWk f g l d s).2 := by
 induction l using sms_rec with
 | h l ih =>
  induction l with
  | nil => intro d s _ h; rw [smsWk]; exact h
  | cons y r ih2 =>
   intro d s hs h
   rw [smsSh, Bool.and_eq_true] at hs
   obtain ⟨h1, h2⟩ := ih y List.mem_cons_self
   obtain ⟨_, _, h3, h4, h5⟩ := sm_sh hs.1
   rw [smsWk]
   refine andW_inv ?_ fun s h => ih2 (fun s hs => ih s (List.mem_cons_of_mem _ hs)) d s hs.2 h
   rw [sm_wk]
   refine andW_inv (hg _ _ _ hs.1 h) fun s h => ?_
   refine andW_inv ?_ fun s h => h2 _ s h5 h
   unfold walkW
   exact andW_inv (exs_inv hf _ _ _ h3 h) fun s h => h1 _ s h4 h
end
def regsL (l : List Sm) : List (List UInt8) := (walkW noteE noteS [] l 1 []).2
theorem regs_ok (l : List Sm) (hs : smsSh l = true) : ∀ s ∈ regsL l, s.length ≤ 65536 := by
 have hn : ∀ (s : List UInt8) (ks : List (List UInt8)), s.length ≤ 65536 → (∀ x ∈ ks, x.length ≤ 65536) → ∀ x ∈ noteL s ks, x.length ≤ 65536 := by
  intro s ks h1 h2 x hx
  unfold noteL at hx
  split at hx
  ·exact h2 x hx
  ·split at hx
   ·exact h2 x hx
   ·rcases List.mem_append.1 hx with h | h
    ·exact h2 x h
    ·rw [List.mem_singleton.1 h]; exact h1
 unfold regsL
 rw [walkW_s]
 refine sms_inv (I := fun ks : List (List UInt8) => ∀ s ∈ ks, s.length ≤ 65536) (fun e d ks he h => ?_) (fun e d ks he h => hn _ _ (sm_sh he).1 h) l 1 [] hs (fun s hs => by cases hs)
 unfold noteE
 show ∀ s ∈ (if e.op = 2 then noteL e.nm ks else ks), _
 split
 ·exact hn _ _ (ex_sh he).1 h
 ·exact h
set_option maxRecDepth 100000 in
set_option maxHeartbeats 4000000 in
theorem lib_Keys (bm : Nat) (w0 : World) : Calls Tryd.prog 60 #[.map (some bm)] w0 (Gives w0 (fun b : Nat => .func (.func 82) #[] #[pA b 0]) (fun b => [.row b 78 [.map (some bm)]]) fun _ => True) := by
 refine calls_K (args := [.map (some bm)]) (n := 4) (env := [(0, .map (some bm))]) Tryd.func60 rfl rfl rfl ⟨rfl, trivial⟩ fun a w hK hM => ?_
 refine wp_seq ?_
 refine region_go (lst := [0, 1]) (by kernel_rfl) ?_
 refine stepAlloc hK hM 1 78 [.map (some bm)] (fun b => pA b 0) (by kernel_rfl) (by kernel_rfl) fun b1 a w hK hM => ?_
 refine stepP hK 2 (.nilFunc) (by kernel_rfl) (by kernel_rfl) fun a hK => ?_
 refine region_done hK [(2, .nilFunc), (1, pA b1 0), (0, .map (some bm))] ⟨rfl, rfl, rfl, trivial⟩ fun a hK => ?_
 refine wp_seq ?_
 refine region_go (lst := [0, 1]) (by kernel_rfl) ?_
 refine stepP hK 3 (.func (.func 82) #[] #[pA b1 0]) (by kernel_rfl) (by kernel_rfl) fun a hK => ?_
 refine stepM hK 2 3 (by kernel_rfl) (.inr rfl) rfl fun a hK => ?_
 refine region_done hK [(2, .func (.func 82) #[] #[pA b1 0]), (1, pA b1 0), (0, .map (some bm))] ⟨rfl, rfl, rfl, trivial⟩ fun a hK => ?_
 refine wp_ret ?_
 exact ret_t hK rfl (u := (.func (.func 82) #[] #[pA b1 0])) rfl (⟨b1, rfl, hM, trivial⟩)
theorem true_of {σ : Type} {f : Ex → Nat → σ → Bool × σ} {g : Sm → Nat → σ → Bool × σ} (hf : ∀ e d s, (f e d s).1 = true) (hg : ∀ e d s, (g e d s).1 = true) : (∀ (l : List Ex) (d : Nat) (s : σ), (exsWk f l d s).1 = true) ∧ ∀ (l : List Sm) (d : Nat) (s : σ), (smsWk f g l d s).1 = true := by
 have ht : ∀ {r : Bool × σ} {k : σ → Bool × σ}, r.1 = true → (∀ s, (k s).1 = true) → (andW r k).1 = true := by
  intro r k h1 h2
  unfold andW; rw [if_pos h1]; exact h2 _
 have he : ∀ (e : Ex) (d : Nat) (s : σ), (e.wk f d s).1 = true := by
  intro e
  induction e using Ex.rec_on with
  | h e ih =>
   intro d s
   rw [ex_wk]
   refine ht (hf _ _ _) fun s => ?_
   have : ∀ (l : List Ex) (d : Nat) (s : σ), (∀ x ∈ l, ∀ d s, (x.wk f d s).1 = true) → (exsWk f l d s).1 = true := by
    intro l
    induction l with
    | nil => intro d s _; rw [exsWk]
    | cons x r ih2 => intro d s h; rw [exsWk]; exact ht (h x List.mem_cons_self _ _) fun s => ih2 d s fun y hy => h y (List.mem_cons_of_mem _ hy)
   exact this e.ks _ s ih
 have hes : ∀ (l : List Ex) (d : Nat) (s : σ), (exsWk f l d s).1 = true := by
  intro l
  induction l with
  | nil => intro d s; rw [exsWk]
  | cons x r ih => intro d s; rw [exsWk]; exact ht (he x _ _) fun s => ih d s
 refine ⟨hes, fun l => ?_⟩
 induction l using sms_rec with
 | h l ih =>
  induction l with
  | nil => intro d s; rw [smsWk]
  | cons y r ih2 =>
   intro d s
   obtain ⟨h1, h2⟩ := ih y List.mem_cons_self
   rw [smsWk, sm_wk]
   refine ht (ht (hg _ _ _) fun s => ht ?_ fun s => h2 _ s) fun s => ih2 (fun s hs => ih s (List.mem_cons_of_mem _ hs)) d s
   unfold walkW
   exact ht (hes _ _ _) fun s => h1 _ s
theorem true_note (l : List Sm) (d : Nat) (ks : List (List UInt8)) : (smsWk noteE noteS l d ks).1 = true := (true_of (fun _ _ _ => rfl) fun _ _ _ => rfl).2 l d ks
set_option maxRecDepth 100000 in
set_option maxHeartbeats 4000000 in
theorem ast_Regs {A : Option Addr} {c : Nat} (l : List Sm) (w0 : World) (hl : SmsAt w0 A l) (hsz : smsSz l ≤ 100000) (hsh : smsSh l = true) : Calls Tryd.prog 25 #[.slice A l.length c] w0 (Gives w0 (fun v : Value => v) (fun v => [.own 9 1 v ((regsL l).mergeSort Go.leB).length (((regsL l).mergeSort Go.leB).map Str)]) fun _ => True) := by
 refine calls_K (args := [.slice A l.length c]) (n := 15) (env := [(0, .slice A l.length c)]) Tryd.func25 rfl rfl rfl ⟨rfl, trivial⟩ fun a w hK hM => ?_
 refine wp_seq ?_
 refine region_go (lst := [0]) (by kernel_rfl) ?_
 refine stepP hK 2 (.slice none 0 0) (by kernel_rfl) (by kernel_rfl) fun a hK => ?_
 refine region_done hK [(2, .slice none 0 0), (0, .slice A l.length c)] ⟨rfl, rfl, trivial⟩ fun a hK => ?_
 refine wp_seq ?_
 refine region_go (lst := [0, 1, 2]) (by kernel_rfl) ?_
 refine stepObj hK hM 5 (.map #[] 0) (fun b => .map (some b)) (by kernel_rfl) (by kernel_rfl) fun b1 a w hK hM => ?_
 refine stepAlloc hK hM 3 78 [.map none] (fun b => pA b 0) (by kernel_rfl) (by kernel_rfl) fun b2 a w hK hM => ?_
 refine stepStore hK hM 0 [.map (some b1)] (by kernel_rfl) rfl rfl rfl rfl (by kernel_rfl) fun w hM => ?_
 replace hM := hM.to [.row b2 78 [.map (some b1)], .obj b1 (.map #[] 0)] (by kernel_rfl)
 refine region_done hK [(3, pA b2 0), (2, .slice none 0 0), (0, .slice A l.length c)] ⟨rfl, rfl, rfl, trivial⟩ fun a hK => ?_
 refine wp_seq ?_
 refine region_go (lst := [0, 1, 2]) (by kernel_rfl) ?_
 refine stepP hK 6 (.func (.func 55) #[] #[pA b2 0]) (by kernel_rfl) (by kernel_rfl) fun a hK => ?_
 refine stepAlloc hK hM 4 66 [.nilFunc] (fun b => pA b 0) (by kernel_rfl) (by kernel_rfl) fun b3 a w hK hM => ?_
 refine stepStore hK hM 0 [.func (.func 55) #[] #[pA b2 0]] (by kernel_rfl) rfl rfl rfl rfl (by kernel_rfl) fun w hM => ?_
 replace hM := hM.to [.row b3 66 [.func (.func 55) #[] #[pA b2 0]], .row b2 78 [.map (some b1)], .obj b1 (.map #[] 0)] (by kernel_rfl)
 refine region_done hK [(4, pA b3 0), (3, pA b2 0), (2, .slice none 0 0), (0, .slice A l.length c)] ⟨rfl, rfl, rfl, rfl, trivial⟩ fun a hK => ?_
 refine wp_seq ?_
 refine region_go (lst := [0, 1, 2, 3]) (by kernel_rfl) ?_
 refine stepM hK 7 0 (by kernel_rfl) (.inl rfl) rfl fun a hK => ?_
 refine stepP hK 8 (.func (.func 56) #[] #[pA b3 0]) (by kernel_rfl) (by kernel_rfl) fun a hK => ?_
 refine stepP hK 9 (.func (.func 57) #[] #[pA b3 0]) (by kernel_rfl) (by kernel_rfl) fun a hK => ?_
 have hc4m : Mem w0 _ [.row b3 66 [.func (.func 55) #[] #[pA b2 0]], .row b2 78 [.map (some b1)], .obj b1 (.map #[] 0)] := hM
 have hc4 := ast_walk (step_rE _ b3 b2 b1) (step_rS _ b3 b2 b1) [] l none 0 A c 1 0 [] [] _ (by simp only [exsSz]; omega) (fun s F w h => ⟨fun k x hx => by simp at hx, hl.on h.below⟩) rfl hsh (hc4m.to _ (by rfl)) ⟨by simp only [exsSz, List.length_nil]; omega, List.nodup_nil⟩
 refine stepCallIn hK 10 #[.slice none 0 0, .slice A l.length c, .int .i64 1, .func (.func 56) #[] #[pA b3 0], .func (.func 57) #[] #[pA b3 0]] (by kernel_rfl) (run_callE en_ast_walk rfl rfl (by kernel_rfl)) (hc4) ?_
 rintro ⟨r5, q6⟩ a w ⟨hR7, hKo⟩ hK hM
 replace hM := hM.to [.row b3 66 [.func (.func 55) #[] #[pA b2 0]], .row b2 78 [.map (some b1)], .obj b1 (setObjS q6)] (by kernel_rfl)
 have hKok : q6.Nodup ∧ q6.length ≤ 1000000 := by have h8 := (hKo (by rw [congrArg Prod.fst hR7, walkW_s]; exact true_note l 1 [])); exact ⟨h8.2, by have := h8.1; omega⟩
 refine region_done hK [(4, pA b3 0), (3, pA b2 0), (2, .slice none 0 0), (0, .slice A l.length c)] ⟨rfl, rfl, rfl, rfl, trivial⟩ fun a hK => ?_
 refine wp_seq ?_
 refine region_go (lst := [0, 1, 2, 3, 4]) (by kernel_rfl) ?_
 refine stepLoad hK 11 (.map (some b1)) (by kernel_rfl) rfl rfl ((hM.row 1 rfl).cells 0 1) (by kernel_rfl) fun a hK => ?_
 refine stepCall hK hM 12 #[.map (some b1)] (by kernel_rfl) (run_callE en_mKeys rfl rfl (by kernel_rfl)) (lib_Keys b1 _) ?_
 rintro b9 a w - hK hM
 have hks : q6 = regsL l := congrArg Prod.snd hR7
 have hkn : q6.Nodup ∧ q6.length ≤ 1000000 := hKok
 have hkl : ∀ s ∈ q6, s.length ≤ 65536 := by rw [hks]; exact regs_ok l hsh
 refine stepCall hK hM 13 #[.func (.func 82) #[] #[pA b9 0]] (by kernel_rfl) (run_callE en_sSorted rfl rfl (by kernel_rfl)) (ast_Sorted b9 b1 q6 _ (hM.row 0 rfl) (hM.obj 3 rfl) hkn.1 hkn.2 hkl) ?_
 rintro v11 a w - hK hM
 obtain ⟨A9, c9, rfl, -, hH9, hnil9⟩ := own_hand (hM.own 0 rfl)
 refine stepCall hK hM 14 #[.slice A9 (q6.mergeSort leB).length c9, .func (.func 61) #[] #[]] (by kernel_rfl) (run_callE en_eachS rfl rfl (by kernel_rfl)) (ast_eachS (q6.mergeSort leB) _ hH9 (by rw [List.length_mergeSort]; exact hkn.2) (fun x hx => hkl x (List.mem_mergeSort.1 hx)) hnil9) ?_
 rintro v13 a w - hK hM
 refine stepM hK 2 14 (by kernel_rfl) (.inr rfl) rfl fun a hK => ?_
 refine region_done hK [(2, v13), (4, pA b3 0), (3, pA b2 0), (0, .slice A l.length c)] ⟨rfl, rfl, rfl, rfl, trivial⟩ fun a hK => ?_
 refine wp_ret ?_
 exact ret_t hK rfl (u := v13) rfl (⟨v13, rfl, (hM.pick 0 rfl).to _ (by rw [hks]), trivial⟩)
end Go.Proofs.YtiigncmpbkfhmaaDoor
namespace Go.Proofs.YtiigncmpbkfhmaaDoor
open Go Go.RowKit
theorem en_ast_Kinds : Enters Tryd.prog 27 := enters_of Tryd.func27 (by kernel_rfl) rfl
theorem en_ast_Kinds_1 : Enters Tryd.prog 62 := enters_of Tryd.func62 (by kernel_rfl) rfl
theorem en_ast_Kinds_2 : Enters Tryd.prog 63 := enters_of Tryd.func63 (by kernel_rfl) rfl
def trueD (_d : Nat) (c : Int → Nat) : Bool × (Int → Nat) := (true, c)
def kindS (s : Sm) (_d : Nat) (c : Int → Nat) : Bool × (Int → Nat) := (true, bumpK s.kind c)
def okK (k : Nat) (c : Int → Nat) : Prop := ∀ j, c j + k ≤ 1000000
set_option maxRecDepth 100000 in
set_option maxHeartbeats 4000000 in
theorem step_k1 (w0 : World) (G : (Int → Nat) → List It) : StepD w0 G okK trueD 62 #[] := by
 refine ⟨en_ast_Kinds_1, ?_, fun d k s h1 _ => fun j => by have := h1 j; show s j + k ≤ _; omega⟩
 intro d k s F w1 hM0 hd hok
 refine calls_KM (args := [vN d]) (n := 3) (env := [(0, vN d)]) Tryd.func62 rfl rfl rfl ⟨rfl, trivial⟩ hM0 fun a w hK hM => ?_
 refine wp_seq ?_
 refine region_go (lst := [0]) (by kernel_rfl) ?_
 refine stepP hK 2 (.bool false) (by kernel_rfl) (by kernel_rfl) fun a hK => ?_
 refine region_done hK [(2, .bool false)] ⟨rfl, trivial⟩ fun a hK => ?_
 refine wp_seq ?_
 refine region_go (lst := [0]) (by kernel_rfl) ?_
 refine stepP hK 2 (.bool true) (by kernel_rfl) (by kernel_rfl) fun a hK => ?_
 refine region_done hK [(2, .bool true)] ⟨rfl, trivial⟩ fun a hK => ?_
 refine wp_ret ?_
 exact ret_t hK rfl (u := (.bool true)) rfl (⟨(true, s), rfl, hM, rfl⟩)
set_option maxRecDepth 100000 in
set_option maxHeartbeats 4000000 in
theorem step_k2 (w0 : World) (bx bl : Nat) : StepS w0 (fun c => [.row bx 53 [.slice (some ⟨bl, 0, none⟩) 11 11], .row bl 3 (kL c)]) okK kindS 63 #[pA bx 0] := by
 refine ⟨en_ast_Kinds_2, ?_, fun e d k c h1 _ => fun j => by have := h1 j; show bumpK e.kind c j + k ≤ _; unfold bumpK; split <;> omega⟩
 intro e d k c F w1 hM0 he hs hd hok
 replace hM0 : Mem w0 w1 ((.row bx 53 [.slice (some ⟨bl, 0, none⟩) 11 11] :: .row bl 3 (kL c) :: F)) := hM0
 refine calls_KM (args := [vS e, vN d, pA bx 0]) (n := 17) (env := [(0, vS e), (1, vN d), (2, pA bx 0)]) Tryd.func63 rfl rfl rfl ⟨rfl, rfl, rfl, trivial⟩ hM0 fun a w hK hM => ?_
 refine wp_seq ?_
 refine region_go (lst := [0, 1]) (by kernel_rfl) ?_
 refine stepAlloc hK hM 3 30 (cS e) (fun b => pA b 0) (by kernel_rfl) (by kernel_rfl) fun b1 a w hK hM => ?_
 refine stepP hK 5 (.bool false) (by kernel_rfl) (by kernel_rfl) fun a hK => ?_
 refine region_done hK [(5, .bool false), (3, pA b1 0), (0, vS e), (2, pA bx 0)] ⟨rfl, rfl, rfl, rfl, trivial⟩ fun a hK => ?_
 refine wp_seq ?_
 refine wp_seq ?_
 refine region_go (lst := [0, 1, 2]) (by kernel_rfl) ?_
 refine stepP hK 6 (pA b1 0) (by kernel_rfl) (by kernel_rfl) fun a hK => ?_
 refine stepLoad hK 7 (.int .i64 e.kind) (by kernel_rfl) rfl rfl ((hM.row 0 rfl).cells 0 1) (by kernel_rfl) fun a hK => ?_
 rcases Bool.eq_false_or_eq_true (ptIs e.kind) with h2 | h2
 ·refine stepRet hK hM 8 #[.int .i64 e.kind] (.bool true) (by kernel_rfl) (run_callE en_ast_isKind rfl rfl (by kernel_rfl)) (ret_eq (ast_isKind e.kind _) (congrArg Value.bool h2)) fun a w hK hM => ?_
  refine region_done hK [(8, .bool true), (5, .bool false), (3, pA b1 0), (0, vS e), (2, pA bx 0)] ⟨rfl, rfl, rfl, rfl, rfl, trivial⟩ fun a hK => ?_
  refine wp_cond_true (hK.get rfl) ?_
  have hk2 : 1 ≤ e.kind ∧ e.kind ≤ 11 := by have := h2; unfold ptIs at this; simpa using this
  refine region_go (lst := [0, 1, 2, 3, 4, 5, 6, 7, 8]) (by kernel_rfl) ?_
  refine stepLoad hK 9 (.slice (some ⟨bl, 0, none⟩) 11 11) (by kernel_rfl) rfl rfl ((hM.row 1 rfl).cells 0 1) (by kernel_rfl) fun a hK => ?_
  refine stepP hK 10 (pA b1 0) (by kernel_rfl) (by kernel_rfl) fun a hK => ?_
  refine stepLoad hK 11 (.int .i64 e.kind) (by kernel_rfl) rfl rfl ((hM.row 0 rfl).cells 0 1) (by kernel_rfl) fun a hK => ?_
  refine stepP hK 12 (.int .i64 (((e.kind - 1).toNat : Nat) : Int)) (by kernel_rfl) (okVal (run_subZ rfl rfl rfl (by omega) (by omega)) (congrArg (Value.int .i64) (by omega))) fun a hK => ?_
  refine stepP hK 13 (.pointer (some ⟨bl, (e.kind - 1).toNat * 1, none⟩)) (by kernel_rfl) (run_ixG (k := (e.kind - 1).toNat) (s := 1) rfl rfl rfl Tryd.underlying53 (by kernel_rfl) (by omega)) fun a hK => ?_
  refine stepLoad hK 14 (.int .i64 (((c e.kind) : Nat) : Int)) (by kernel_rfl) rfl rfl (((hM.row 2 rfl).cells ((e.kind - 1).toNat * 1) 1).to (kL_at hk2 c)) (by kernel_rfl) fun a hK => ?_
  refine stepP hK 15 (.int .i64 ((((c e.kind) + 1) : Nat) : Int)) (by kernel_rfl) (run_addN (i := (c e.kind)) (j := 1) rfl rfl rfl (by have := hok e.kind; omega)) fun a hK => ?_
  refine stepP hK 16 (.pointer (some ⟨bl, (e.kind - 1).toNat * 1, none⟩)) (by kernel_rfl) (run_ixG (k := (e.kind - 1).toNat) (s := 1) rfl rfl rfl Tryd.underlying53 (by kernel_rfl) (by omega)) fun a hK => ?_
  refine stepStoreAt hK hM 2 [.int .i64 ((((c e.kind) + 1) : Nat) : Int)] (kL (bumpK e.kind c)) (by kernel_rfl) rfl rfl rfl rfl (by kernel_rfl) rfl rfl (by simp [kL]; omega) (kL_put hk2 c) fun w hM => ?_
  replace hM := hM.to ((.row b1 30 (cS e) :: .row bx 53 [.slice (some ⟨bl, 0, none⟩) 11 11] :: .row bl 3 (kL (bumpK e.kind c)) :: F)) (by kernel_rfl)
  refine region_done hK [(8, .bool true), (5, .bool false), (3, pA b1 0), (0, vS e), (2, pA bx 0)] ⟨rfl, rfl, rfl, rfl, rfl, trivial⟩ fun a hK => ?_
  refine wp_seq ?_
  refine region_go (lst := [0]) (by kernel_rfl) ?_
  refine stepP hK 5 (.bool true) (by kernel_rfl) (by kernel_rfl) fun a hK => ?_
  refine region_done hK [(5, .bool true), (8, .bool true), (3, pA b1 0), (0, vS e), (2, pA bx 0)] ⟨rfl, rfl, rfl, rfl, rfl, trivial⟩ fun a hK => ?_
  refine wp_ret ?_
  exact ret_t hK rfl (u := (.bool true)) rfl (⟨(true, bumpK e.kind c), rfl, hM.drop 1, rfl⟩)
 ·refine stepRet hK hM 8 #[.int .i64 e.kind] (.bool false) (by kernel_rfl) (run_callE en_ast_isKind rfl rfl (by kernel_rfl)) (ret_eq (ast_isKind e.kind _) (congrArg Value.bool h2)) fun a w hK hM => ?_
  refine region_done hK [(8, .bool false), (5, .bool false), (3, pA b1 0), (0, vS e), (2, pA bx 0)] ⟨rfl, rfl, rfl, rfl, rfl, trivial⟩ fun a hK => ?_
  refine wp_cond_false (hK.get rfl) ?_
  refine wp_skip ?_
  refine wp_seq ?_
  refine region_go (lst := [0]) (by kernel_rfl) ?_
  refine stepP hK 5 (.bool true) (by kernel_rfl) (by kernel_rfl) fun a hK => ?_
  refine region_done hK [(5, .bool true), (8, .bool false), (3, pA b1 0), (0, vS e), (2, pA bx 0)] ⟨rfl, rfl, rfl, rfl, rfl, trivial⟩ fun a hK => ?_
  refine wp_ret ?_
  exact ret_t hK rfl (u := (.bool true)) rfl (⟨(true, bumpK e.kind c), rfl, (hM.drop 1).to _ (by show _ = _ :: .row bl _ (kL (bumpK e.kind c)) :: F; rw [kL_out (fun h9 => by have h8 := h2; unfold ptIs at h8; rw [decide_eq_true h9.1, decide_eq_true h9.2] at h8; cases h8)]; rfl), rfl⟩)
theorem true_exs (l : List Ex) (d : Nat) (c : Int → Nat) : exsWk (fun _ d s => trueD d s) l d c = (true, c) := by
 have key : ∀ (e : Ex) (d : Nat) (c : Int → Nat), e.wk (fun _ d s => trueD d s) d c = (true, c) := by
  intro e
  induction e using Ex.rec_on with
  | h e ih =>
   intro d c
   rw [ex_wk]
   show andW (true, c) _ = _
   rw [andW_t]
   have : ∀ (l : List Ex) (d : Nat), (∀ x ∈ l, ∀ (d : Nat) (c : Int → Nat), x.wk (fun _ d s => trueD d s) d c = (true, c)) → exsWk (fun _ d s => trueD d s) l d c = (true, c) := by
    intro l
    induction l with
    | nil => intro d _; rw [exsWk]
    | cons x r ih2 => intro d h; rw [exsWk, h x List.mem_cons_self, andW_t, ih2 d fun y hy => h y (List.mem_cons_of_mem _ hy)]
   exact this e.ks _ ih
 induction l with
 | nil => rw [exsWk]
 | cons x r ih => rw [exsWk, key, andW_t, ih]
theorem kind_sms0 (l : List Sm) : ∀ (d : Nat) (c : Int → Nat), smsWk (fun _ d s => trueD d s) kindS l d c = (true, fun j => c j + smsCt j l) := by
 induction l using sms_rec with
 | h l ih =>
  induction l with
  | nil => intro d c; rw [smsWk]; exact congrArg (Prod.mk true) (funext fun j => by rw [smsCt]; rfl)
  | cons y r ih2 =>
   intro d c
   obtain ⟨h1, h2⟩ := ih y List.mem_cons_self
   rw [smsWk, sm_wk]
   show andW (andW (true, bumpK y.kind c) _) _ = _
   rw [andW_t, walkW_go (true_exs _ _ _), h1, andW_t, h2, andW_t, ih2 fun s hs => ih s (List.mem_cons_of_mem _ hs)]
   refine congrArg (Prod.mk true) (funext fun j => ?_)
   rw [smsCt, sm_ct]
   unfold bumpK
   omega
theorem kind_sms (l : List Sm) : walkW (fun _ d s => trueD d s) kindS [] l 1 (fun _ => 0) = (true, fun j => smsCt j l) := by
 rw [walkW_s, kind_sms0]
 exact congrArg (Prod.mk true) (funext fun j => Nat.zero_add _)
set_option maxRecDepth 100000 in
set_option maxHeartbeats 4000000 in
theorem ast_Kinds {A : Option Addr} {c : Nat} (l : List Sm) (w0 : World) (hl : SmsAt w0 A l) (hsz : smsSz l ≤ 100000) (hsh : smsSh l = true) : Calls Tryd.prog 27 #[.slice A l.length c] w0 (Gives w0 (fun b : Nat => .slice (some ⟨b, 0, none⟩) 11 11) (fun b => [.row b 3 (kL fun j => smsCt j l)]) fun _ => True) := by
 refine calls_K (args := [.slice A l.length c]) (n := 10) (env := [(0, .slice A l.length c)]) Tryd.func27 rfl rfl rfl ⟨rfl, trivial⟩ fun a w hK hM => ?_
 refine wp_seq ?_
 refine region_go (lst := [0]) (by kernel_rfl) ?_
 refine stepP hK 2 (.slice none 0 0) (by kernel_rfl) (by kernel_rfl) fun a hK => ?_
 refine region_done hK [(2, .slice none 0 0), (0, .slice A l.length c)] ⟨rfl, rfl, trivial⟩ fun a hK => ?_
 refine wp_seq ?_
 refine region_go (lst := [0, 1, 2]) (by kernel_rfl) ?_
 refine stepMake hK hM 4 [.int .i64 0] 11 8 Tryd.underlying53 (by kernel_rfl) (by kernel_rfl) rfl rfl rfl (by omega) fun b1 a w hK hM => ?_
 refine stepAlloc hK hM 3 53 [.slice none 0 0] (fun b => pA b 0) (by kernel_rfl) (by kernel_rfl) fun b2 a w hK hM => ?_
 refine stepStore hK hM 0 [.slice (some ⟨b1, 0, none⟩) 11 11] (by kernel_rfl) rfl rfl rfl rfl (by kernel_rfl) fun w hM => ?_
 replace hM := hM.to [.row b2 53 [.slice (some ⟨b1, 0, none⟩) 11 11], .row b1 3 (zerosL 11 [.int .i64 0])] (by kernel_rfl)
 refine region_done hK [(3, pA b2 0), (2, .slice none 0 0), (0, .slice A l.length c)] ⟨rfl, rfl, rfl, trivial⟩ fun a hK => ?_
 refine wp_seq ?_
 refine region_go (lst := [0, 1, 2, 3]) (by kernel_rfl) ?_
 refine stepM hK 5 0 (by kernel_rfl) (.inl rfl) rfl fun a hK => ?_
 refine stepCall hK hM 6 #[.func (.func 62) #[] #[]] (by kernel_rfl) (run_callE en_ast_anyExpr rfl rfl (by kernel_rfl)) (ast_anyExpr 62 #[] _) ?_
 rintro b3 a w - hK hM
 refine stepP hK 7 (.func (.func 63) #[] #[pA b2 0]) (by kernel_rfl) (by kernel_rfl) fun a hK => ?_
 have hc5m : Mem w0 _ [.row b3 61 [.func (.func 62) #[] #[]], .row b2 53 [.slice (some ⟨b1, 0, none⟩) 11 11], .row b1 3 (zerosL 11 [.int .i64 0])] := hM
 have hc5 := ast_walk (any_expr1 (step_k1 _ (fun c => [.row b2 53 [.slice (some ⟨b1, 0, none⟩) 11 11], .row b1 3 (kL c)])) b3) (StepS.more (step_k2 _ b2 b1) [.row b3 61 [.func (.func 62) #[] #[]]]) [] l none 0 A c 1 0 (fun _ => 0) [] _ (by simp only [exsSz]; omega) (fun s F w h => ⟨fun k x hx => by simp at hx, hl.on h.below⟩) rfl hsh (hc5m.to _ (by rfl)) (by intro j; simp only [exsSz]; omega)
 refine stepCallIn hK 8 #[.slice none 0 0, .slice A l.length c, .int .i64 1, .func (.func 70) #[] #[pA b3 0], .func (.func 63) #[] #[pA b2 0]] (by kernel_rfl) (run_callE en_ast_walk rfl rfl (by kernel_rfl)) (hc5) ?_
 rintro ⟨r6, q7⟩ a w ⟨hR8, -⟩ hK hM
 replace hM := hM.to [.row b3 61 [.func (.func 62) #[] #[]], .row b2 53 [.slice (some ⟨b1, 0, none⟩) 11 11], .row b1 3 (kL q7)] (by kernel_rfl)
 refine region_done hK [(3, pA b2 0), (2, .slice none 0 0), (0, .slice A l.length c)] ⟨rfl, rfl, rfl, trivial⟩ fun a hK => ?_
 refine wp_seq ?_
 refine region_go (lst := [0, 1]) (by kernel_rfl) ?_
 refine stepLoad hK 9 (.slice (some ⟨b1, 0, none⟩) 11 11) (by kernel_rfl) rfl rfl ((hM.row 1 rfl).cells 0 1) (by kernel_rfl) fun a hK => ?_
 refine stepM hK 2 9 (by kernel_rfl) (.inr rfl) rfl fun a hK => ?_
 refine region_done hK [(2, .slice (some ⟨b1, 0, none⟩) 11 11), (3, pA b2 0), (0, .slice A l.length c)] ⟨rfl, rfl, rfl, trivial⟩ fun a hK => ?_
 refine wp_ret ?_
 exact ret_t hK rfl (u := (.slice (some ⟨b1, 0, none⟩) 11 11)) rfl (⟨b1, rfl, (((hM.order [[.row b3 61 [.func (.func 62) #[] #[]]], [.row b2 53 [.slice (some ⟨b1, 0, none⟩) 11 11]], [.row b1 3 (kL q7)]] [2, 0, 1] 3 rfl (by simp) (by decide) ([.row b1 3 (kL q7), .row b3 61 [.func (.func 62) #[] #[]], .row b2 53 [.slice (some ⟨b1, 0, none⟩) 11 11]]) (by simp))).pick 0 rfl).to _ (by rw [show q7 = fun j => smsCt j l from (congrArg Prod.snd hR8).trans (congrArg Prod.snd (kind_sms l))]), trivial⟩)
end Go.Proofs.YtiigncmpbkfhmaaDoor
namespace Go.Proofs.YtiigncmpbkfhmaaDoor
open Go Go.RowKit
theorem en_cantileverlaw03_lives : Enters Tryd.prog 7 := enters_of Tryd.func7 (by kernel_rfl) rfl
set_option maxRecDepth 100000 in
set_option maxHeartbeats 4000000 in
theorem lives_yes  (w0 : World) (hTab : TabOk w0) : Calls Tryd.prog 7 #[] w0 (Ret w0 (.bool true)) := by
 refine calls_K (args := []) (n := 34) (env := []) Tryd.func7 rfl rfl rfl trivial fun a w hK hM => ?_
 refine wp_seq ?_
 refine region_go (lst := [0]) (by kernel_rfl) ?_
 refine stepP hK 0 (.bool false) (by kernel_rfl) (by kernel_rfl) fun a hK => ?_
 refine region_done hK [(0, .bool false)] ⟨rfl, trivial⟩ fun a hK => ?_
 refine wp_seq ?_
 refine region_go (lst := [0, 1, 2]) (by kernel_rfl) ?_
 refine stepCall hK hM 2 #[] (by kernel_rfl) (run_callE en_cantileverkit_Pages rfl rfl (by kernel_rfl)) (kit_Pages _) ?_
 rintro ⟨k1_1, e1_1, s1_1, d0_1, k2_1, e2_1, s0_1, t0_1⟩ a w - hK hM
 refine stepAlloc hK hM 1 25 [.slice none 0 0, .slice none 0 0] (fun b => pA b 0) (by kernel_rfl) (by kernel_rfl) fun b3 a w hK hM => ?_
 refine stepStore hK hM 0 [.slice (some ⟨d0_1, 0, none⟩) 1 1, .slice (some ⟨t0_1, 0, none⟩) 1 1] (by kernel_rfl) rfl rfl rfl rfl (by kernel_rfl) fun w hM => ?_
 replace hM := hM.to [.row b3 25 [.slice (some ⟨d0_1, 0, none⟩) 1 1, .slice (some ⟨t0_1, 0, none⟩) 1 1], .row k1_1 36 [.int .i64 2, .int .i64 0, Str [114], .slice none 0 0, .int .i64 1, .int .i64 1, Str [], .slice none 0 0], .row e1_1 36 [.int .i64 14, .int .i64 0, Str [], .slice (some ⟨k1_1, 0, none⟩) 2 2], .row s1_1 30 [.int .i64 3, Str [], Str [120], .int .i64 4, .slice (some ⟨e1_1, 0, none⟩) 1 1, .slice none 0 0, .slice none 0 0], .row d0_1 45 [Str [120], .bool false, .int .i64 0], .row k2_1 36 [.int .i64 2, .int .i64 0, Str [114], .slice none 0 0, .int .i64 1, .int .i64 1, Str [], .slice none 0 0], .row e2_1 36 [.int .i64 7, .int .i64 0, Str [], .slice (some ⟨k2_1, 0, none⟩) 2 2], .row s0_1 30 [.int .i64 2, Str [114], Str [120], .int .i64 3, .slice none 0 0, .slice none 0 0, .slice none 0 0, .int .i64 10, Str [], Str [], .int .i64 0, .slice (some ⟨e2_1, 0, none⟩) 1 1, .slice (some ⟨s1_1, 0, none⟩) 1 1, .slice none 0 0], .row t0_1 28 [.slice (some ⟨s0_1, 0, none⟩) 2 2]] (by kernel_rfl)
 refine region_done hK [(1, pA b3 0), (0, .bool false)] ⟨rfl, rfl, trivial⟩ fun a hK => ?_
 refine wp_seq ?_
 refine region_go (lst := [0, 1, 2, 3, 4, 5, 6, 7, 8, 9, 10, 11, 12, 13, 14, 15, 16, 17, 18, 19, 20, 21, 22, 23, 24, 25, 26, 27, 28, 29, 30, 31]) (by kernel_rfl) ?_
 refine stepLoad hK 3 (.agg #[.slice (some ⟨d0_1, 0, none⟩) 1 1, .slice (some ⟨t0_1, 0, none⟩) 1 1]) (by kernel_rfl) rfl rfl ((hM.row 0 rfl).cells 0 2) (by kernel_rfl) fun a hK => ?_
 refine stepRet hK hM 4 #[.agg #[.slice (some ⟨d0_1, 0, none⟩) 1 1, .slice (some ⟨t0_1, 0, none⟩) 1 1]] (.int .i64 0) (by kernel_rfl) (run_callE en_ast_Check rfl rfl (by kernel_rfl)) (ret_eq (ast_Check (pgT k1_1 e1_1 s1_1 d0_1 k2_1 e2_1 s0_1 t0_1 none 0 []) _ (hTab.on hM.below) (pages_at (hM.row 1 rfl) (hM.row 2 rfl) (hM.row 3 rfl) (hM.row 4 rfl) (hM.row 5 rfl) (hM.row 6 rfl) (hM.row 7 rfl) (hM.row 8 rfl) (by decide) (sms_nil _ _)) (Nat.le_of_ble_eq_true (by kernel_rfl)) (by kernel_rfl)) (v' := (.int .i64 0)) (by kernel_rfl)) fun a w hK hM => ?_
 refine stepP hK 5 (.bool true) (by kernel_rfl) (by kernel_rfl) fun a hK => ?_
 refine stepM hK 6 5 (by kernel_rfl) (.inl rfl) rfl fun a hK => ?_
 refine stepLoad hK 7 (.agg #[.slice (some ⟨d0_1, 0, none⟩) 1 1, .slice (some ⟨t0_1, 0, none⟩) 1 1]) (by kernel_rfl) rfl rfl ((hM.row 0 rfl).cells 0 2) (by kernel_rfl) fun a hK => ?_
 refine stepRet hK hM 8 #[.agg #[.slice (some ⟨d0_1, 0, none⟩) 1 1, .slice (some ⟨t0_1, 0, none⟩) 1 1]] (.int .i64 9) (by kernel_rfl) (run_callE en_ast_Size rfl rfl (by kernel_rfl)) (ret_eq (ast_Size (pgT k1_1 e1_1 s1_1 d0_1 k2_1 e2_1 s0_1 t0_1 none 0 []) _ (pages_at (hM.row 1 rfl) (hM.row 2 rfl) (hM.row 3 rfl) (hM.row 4 rfl) (hM.row 5 rfl) (hM.row 6 rfl) (hM.row 7 rfl) (hM.row 8 rfl) (by decide) (sms_nil _ _)) (Nat.le_of_ble_eq_true (by kernel_rfl)) (by kernel_rfl)) (v' := (.int .i64 9)) (by kernel_rfl)) fun a w hK hM => ?_
 refine stepP hK 9 (.bool true) (by kernel_rfl) (by kernel_rfl) fun a hK => ?_
 refine stepP hK 10 (.bool true) (by kernel_rfl) (by kernel_rfl) fun a hK => ?_
 refine stepM hK 11 10 (by kernel_rfl) (.inl rfl) rfl fun a hK => ?_
 refine stepLoad hK 12 (.agg #[.slice (some ⟨d0_1, 0, none⟩) 1 1, .slice (some ⟨t0_1, 0, none⟩) 1 1]) (by kernel_rfl) rfl rfl ((hM.row 0 rfl).cells 0 2) (by kernel_rfl) fun a hK => ?_
 refine stepRet hK hM 13 #[.agg #[.slice (some ⟨d0_1, 0, none⟩) 1 1, .slice (some ⟨t0_1, 0, none⟩) 1 1]] (.int .i64 4) (by kernel_rfl) (run_callE en_ast_Deep rfl rfl (by kernel_rfl)) (ret_eq (ast_Deep (pgT k1_1 e1_1 s1_1 d0_1 k2_1 e2_1 s0_1 t0_1 none 0 []) _ (pages_at (hM.row 1 rfl) (hM.row 2 rfl) (hM.row 3 rfl) (hM.row 4 rfl) (hM.row 5 rfl) (hM.row 6 rfl) (hM.row 7 rfl) (hM.row 8 rfl) (by decide) (sms_nil _ _)) (Nat.le_of_ble_eq_true (by kernel_rfl)) (by kernel_rfl)) (v' := (.int .i64 4)) (by kernel_rfl)) fun a w hK hM => ?_
 refine stepP hK 14 (.bool true) (by kernel_rfl) (by kernel_rfl) fun a hK => ?_
 refine stepP hK 15 (.bool true) (by kernel_rfl) (by kernel_rfl) fun a hK => ?_
 refine stepM hK 16 15 (by kernel_rfl) (.inl rfl) rfl fun a hK => ?_
 refine stepP hK 17 (pA b3 1) (by kernel_rfl) (by kernel_rfl) fun a hK => ?_
 refine stepLoad hK 18 (.slice (some ⟨t0_1, 0, none⟩) 1 1) (by kernel_rfl) rfl rfl ((hM.row 0 rfl).cells 1 1) (by kernel_rfl) fun a hK => ?_
 refine stepP hK 19 (pA t0_1 0) (by kernel_rfl) (run_ixG (k := 0) (s := 1) rfl rfl rfl Tryd.underlying23 (by kernel_rfl) (by decide)) fun a hK => ?_
 refine stepLoad hK 20 (.slice (some ⟨s0_1, 0, none⟩) 2 2) (by kernel_rfl) rfl rfl ((hM.row 8 rfl).cells 0 1) (by kernel_rfl) fun a hK => ?_
 refine stepCall hK hM 21 #[.slice (some ⟨s0_1, 0, none⟩) 2 2] (by kernel_rfl) (run_callE en_ast_Regs rfl rfl (by kernel_rfl)) (ast_Regs [st1 none 0 [], stIf k1_1 e1_1 s1_1 k2_1 e2_1] _ ((pages_at (hM.row 1 rfl) (hM.row 2 rfl) (hM.row 3 rfl) (hM.row 4 rfl) (hM.row 5 rfl) (hM.row 6 rfl) (hM.row 7 rfl) (hM.row 8 rfl) (by decide) (sms_nil _ _)).threads 0 _ rfl).2.1 (Nat.le_of_ble_eq_true (by kernel_rfl)) (by kernel_rfl)) ?_
 rintro v4 a w - hK hM
 rw [show (regsL [st1 none 0 [], stIf k1_1 e1_1 s1_1 k2_1 e2_1]).mergeSort Go.leB = [[114]] by rw [show regsL [st1 none 0 [], stIf k1_1 e1_1 s1_1 k2_1 e2_1] = [[114]] by kernel_rfl]; simp] at hM
 obtain ⟨A9, c9, rfl, -, -⟩ := own_hand (hM.own 0 rfl)
 refine stepAlloc hK hM 22 9 [Str [114]] (fun b => .slice (some ⟨b, 0, none⟩) 1 1) (by kernel_rfl) (by kernel_rfl) fun b6 a w hK hM => ?_
 refine stepRet hK hM 23 #[.slice A9 [[114]].length c9, .slice (some ⟨b6, 0, none⟩) 1 1] (.bool true) (by kernel_rfl) (run_callE en_cantileverkit_Texts rfl rfl (by kernel_rfl)) (ret_eq (kit_Texts [[114]] [[114]] _ (own_at (f := Str) (l := [[114]]) (hM.own 1 rfl)) (HandAt.row (f := Str) (l := [[114]]) (hM.row 0 rfl)) (by decide) (by decide)) (v' := .bool true) (by kernel_rfl)) fun a w hK hM => ?_
 refine stepP hK 24 (.bool true) (by kernel_rfl) (by kernel_rfl) fun a hK => ?_
 refine stepM hK 25 24 (by kernel_rfl) (.inl rfl) rfl fun a hK => ?_
 refine stepP hK 26 (pA b3 1) (by kernel_rfl) (by kernel_rfl) fun a hK => ?_
 refine stepLoad hK 27 (.slice (some ⟨t0_1, 0, none⟩) 1 1) (by kernel_rfl) rfl rfl ((hM.row 2 rfl).cells 1 1) (by kernel_rfl) fun a hK => ?_
 refine stepP hK 28 (pA t0_1 0) (by kernel_rfl) (run_ixG (k := 0) (s := 1) rfl rfl rfl Tryd.underlying23 (by kernel_rfl) (by decide)) fun a hK => ?_
 refine stepLoad hK 29 (.slice (some ⟨s0_1, 0, none⟩) 2 2) (by kernel_rfl) rfl rfl ((hM.row 10 rfl).cells 0 1) (by kernel_rfl) fun a hK => ?_
 refine stepCall hK hM 30 #[.slice (some ⟨s0_1, 0, none⟩) 2 2] (by kernel_rfl) (run_callE en_ast_Kinds rfl rfl (by kernel_rfl)) (ast_Kinds [st1 none 0 [], stIf k1_1 e1_1 s1_1 k2_1 e2_1] _ ((pages_at (hM.row 3 rfl) (hM.row 4 rfl) (hM.row 5 rfl) (hM.row 6 rfl) (hM.row 7 rfl) (hM.row 8 rfl) (hM.row 9 rfl) (hM.row 10 rfl) (by decide) (sms_nil _ _)).threads 0 _ rfl).2.1 (Nat.le_of_ble_eq_true (by kernel_rfl)) (by kernel_rfl)) ?_
 rintro b7 a w - hK hM
 replace hM := hM.to ([.row b7 3 [.int .i64 0, .int .i64 1, .int .i64 1, .int .i64 0, .int .i64 0, .int .i64 0, .int .i64 0, .int .i64 0, .int .i64 0, .int .i64 1, .int .i64 0], .row b6 9 [Str [114]], .own 9 1 (.slice A9 [[114]].length c9) 1 [Str [114]], .row b3 25 [.slice (some ⟨d0_1, 0, none⟩) 1 1, .slice (some ⟨t0_1, 0, none⟩) 1 1], .row k1_1 36 [.int .i64 2, .int .i64 0, Str [114], .slice none 0 0, .int .i64 1, .int .i64 1, Str [], .slice none 0 0], .row e1_1 36 [.int .i64 14, .int .i64 0, Str [], .slice (some ⟨k1_1, 0, none⟩) 2 2], .row s1_1 30 [.int .i64 3, Str [], Str [120], .int .i64 4, .slice (some ⟨e1_1, 0, none⟩) 1 1, .slice none 0 0, .slice none 0 0], .row d0_1 45 [Str [120], .bool false, .int .i64 0], .row k2_1 36 [.int .i64 2, .int .i64 0, Str [114], .slice none 0 0, .int .i64 1, .int .i64 1, Str [], .slice none 0 0], .row e2_1 36 [.int .i64 7, .int .i64 0, Str [], .slice (some ⟨k2_1, 0, none⟩) 2 2], .row s0_1 30 [.int .i64 2, Str [114], Str [120], .int .i64 3, .slice none 0 0, .slice none 0 0, .slice none 0 0, .int .i64 10, Str [], Str [], .int .i64 0, .slice (some ⟨e2_1, 0, none⟩) 1 1, .slice (some ⟨s1_1, 0, none⟩) 1 1, .slice none 0 0], .row t0_1 28 [.slice (some ⟨s0_1, 0, none⟩) 2 2]]) (by kernel_rfl)
 refine stepAlloc hK hM 31 3 [.int .i64 0, .int .i64 1, .int .i64 1, .int .i64 0, .int .i64 0, .int .i64 0, .int .i64 0, .int .i64 0, .int .i64 0, .int .i64 1, .int .i64 0] (fun b => .slice (some ⟨b, 0, none⟩) 11 11) (by kernel_rfl) (by kernel_rfl) fun b9 a w hK hM => ?_
 refine stepRet hK hM 32 #[.slice (some ⟨b7, 0, none⟩) 11 11, .slice (some ⟨b9, 0, none⟩) 11 11] (.bool true) (by kernel_rfl) (run_callE en_cantileverkit_Ints rfl rfl (by kernel_rfl)) (ret_eq (kit_Ints [0, 1, 1, 0, 0, 0, 0, 0, 0, 1, 0] [0, 1, 1, 0, 0, 0, 0, 0, 0, 1, 0] _ (HandAt.row (f := fun x => .int .i64 x) (l := [0, 1, 1, 0, 0, 0, 0, 0, 0, 1, 0]) (hM.row 1 rfl)) (HandAt.row (f := fun x => .int .i64 x) (l := [0, 1, 1, 0, 0, 0, 0, 0, 0, 1, 0]) (hM.row 0 rfl)) (by decide) (by decide)) (v' := .bool true) (by kernel_rfl)) fun a w hK hM => ?_
 refine stepP hK 33 (.bool true) (by kernel_rfl) (by kernel_rfl) fun a hK => ?_
 refine stepM hK 0 33 (by kernel_rfl) (.inr rfl) rfl fun a hK => ?_
 refine region_done hK [(0, .bool true), (1, pA b3 0)] ⟨rfl, rfl, trivial⟩ fun a hK => ?_
 refine wp_ret ?_
 exact ret_t hK rfl (u := (.bool true)) rfl (⟨rfl, hM.below⟩)
end Go.Proofs.YtiigncmpbkfhmaaDoor
namespace Go.Proofs.YtiigncmpbkfhmaaDoor
open Go Go.RowKit
theorem en_cantileverkit_LightProgram : Enters Tryd.prog 12 := enters_of Tryd.func12 (by kernel_rfl) rfl
set_option maxRecDepth 100000 in
set_option maxHeartbeats 4000000 in
theorem kit_LightProgram (p : Pg) (n : Int) (w0 : World) (hp : PgAt w0 p) (hn0 : 0 ≤ n) (hn1 : n ≤ 100000) : Calls Tryd.prog 12 #[vG p, .int .i64 n] w0 (Ret w0 (.bool (decide ((0 : Int) ≤ pgHf p n)))) := by
 have hpl := hp.len
 refine calls_K (args := [vG p, .int .i64 n]) (n := 64) (env := [(0, vG p), (1, .int .i64 n)]) Tryd.func12 rfl rfl rfl ⟨rfl, rfl, trivial⟩ fun a w hK hM => ?_
 refine wp_seq ?_
 refine region_go (lst := [0, 1]) (by kernel_rfl) ?_
 refine stepAlloc hK hM 2 25 [.slice p.A1 p.ds.length p.c1, .slice p.A2 p.ts.length p.c2] (fun b => pA b 0) (by kernel_rfl) (by kernel_rfl) fun b1 a w hK hM => ?_
 refine stepP hK 4 (.bool false) (by kernel_rfl) (by kernel_rfl) fun a hK => ?_
 refine region_done hK [(4, .bool false), (2, pA b1 0), (0, vG p), (1, .int .i64 n)] ⟨rfl, rfl, rfl, rfl, trivial⟩ fun a hK => ?_
 refine wp_seq ?_
 refine region_go (lst := [0, 1, 2, 3, 4, 5, 6, 7, 8, 9, 10, 11, 12, 13, 14, 15]) (by kernel_rfl) ?_
 refine stepM hK 8 1 (by kernel_rfl) (.inl rfl) rfl fun a hK => ?_
 refine stepM hK 9 1 (by kernel_rfl) (.inl rfl) rfl fun a hK => ?_
 refine stepP hK 10 (.int .i64 (n + 1)) (by kernel_rfl) (run_addZ rfl rfl rfl (by omega) (by omega)) fun a hK => ?_
 refine stepP hK 11 (pA b1 0) (by kernel_rfl) (by kernel_rfl) fun a hK => ?_
 refine stepLoad hK 12 (.slice p.A1 p.ds.length p.c1) (by kernel_rfl) rfl rfl ((hM.row 0 rfl).cells 0 1) (by kernel_rfl) fun a hK => ?_
 refine stepP hK 13 (.int .i64 ((p.ds.length : Nat) : Int)) (by kernel_rfl) (by kernel_rfl) fun a hK => ?_
 refine stepP hK 14 (.int .i64 (min (n + 1) ((p.ds.length : Nat) : Int))) (by kernel_rfl) (run_minI rfl rfl rfl) fun a hK => ?_
 refine stepP hK 15 (.int .i64 (n - (min (n + 1) ((p.ds.length : Nat) : Int)))) (by kernel_rfl) (run_subZ rfl rfl rfl (by omega) (by omega)) fun a hK => ?_
 refine stepM hK 16 1 (by kernel_rfl) (.inl rfl) rfl fun a hK => ?_
 refine stepP hK 17 (.int .i64 (n + 1)) (by kernel_rfl) (run_addZ rfl rfl rfl (by omega) (by omega)) fun a hK => ?_
 refine stepP hK 18 (pA b1 1) (by kernel_rfl) (by kernel_rfl) fun a hK => ?_
 refine stepLoad hK 19 (.slice p.A2 p.ts.length p.c2) (by kernel_rfl) rfl rfl ((hM.row 0 rfl).cells 1 1) (by kernel_rfl) fun a hK => ?_
 refine stepP hK 20 (.int .i64 ((p.ts.length : Nat) : Int)) (by kernel_rfl) (by kernel_rfl) fun a hK => ?_
 refine stepP hK 21 (.int .i64 (min (n + 1) ((p.ts.length : Nat) : Int))) (by kernel_rfl) (run_minI rfl rfl rfl) fun a hK => ?_
 refine stepP hK 22 (.int .i64 ((n - (min (n + 1) ((p.ds.length : Nat) : Int))) - (min (n + 1) ((p.ts.length : Nat) : Int)))) (by kernel_rfl) (run_subZ rfl rfl rfl (by omega) (by omega)) fun a hK => ?_
 refine stepM hK 5 22 (by kernel_rfl) (.inr rfl) rfl fun a hK => ?_
 refine region_done hK [(5, .int .i64 ((n - (min (n + 1) ((p.ds.length : Nat) : Int))) - (min (n + 1) ((p.ts.length : Nat) : Int)))), (4, .bool false), (2, pA b1 0), (0, vG p), (1, .int .i64 n)] ⟨rfl, rfl, rfl, rfl, rfl, trivial⟩ fun a hK => ?_
 refine wp_seq ?_
 refine wp_seq ?_
 refine region_go (lst := [0]) (by kernel_rfl) ?_
 refine stepP hK 6 (.int .i64 0) (by kernel_rfl) (by kernel_rfl) fun a hK => ?_
 refine region_done hK [(6, .int .i64 0), (5, .int .i64 ((n - (min (n + 1) ((p.ds.length : Nat) : Int))) - (min (n + 1) ((p.ts.length : Nat) : Int)))), (4, .bool false), (2, pA b1 0), (0, vG p), (1, .int .i64 n)] ⟨rfl, rfl, rfl, rfl, rfl, rfl, trivial⟩ fun a hK => ?_
 refine wp_block ?_
 refine wp_loopX (fun x : Nat × Int => [(4, .bool false), (2, pA b1 0), (0, vG p), (1, .int .i64 n), (6, .int .i64 ((x.1 : Nat) : Int)), (5, .int .i64 x.2)]) (fun x : Nat × Int => [.row b1 25 [.slice p.A1 p.ds.length p.c1, .slice p.A2 p.ts.length p.c2]]) (fun x : Nat × Int => x.1 ≤ p.ds.length ∧ dcsHf (p.ds.drop x.1) x.2 = dcsHf p.ds (n - min (n + 1) ((p.ds.length : Nat) : Int) - min (n + 1) ((p.ts.length : Nat) : Int)) ∧ x.2 ≤ 1000000) (fun x : Nat × Int => p.ds.length - x.1) (0, ((n - (min (n + 1) ((p.ds.length : Nat) : Int))) - (min (n + 1) ((p.ts.length : Nat) : Int)))) (hK.sub ⟨rfl, rfl, rfl, rfl, rfl, rfl, trivial⟩) hM ⟨Nat.zero_le _, rfl, by omega⟩ ?_
 rintro ⟨i, v⟩ a w hK hM hR
 replace hK : Knows a 64 [(4, .bool false), (2, pA b1 0), (0, vG p), (1, .int .i64 n), (6, vN i), (5, .int .i64 v)] := hK
 replace hM : Mem w0 w [.row b1 25 [.slice p.A1 p.ds.length p.c1, .slice p.A2 p.ts.length p.c2]] := hM
 replace hR : i ≤ p.ds.length ∧ dcsHf (p.ds.drop i) v = dcsHf p.ds (n - min (n + 1) ((p.ds.length : Nat) : Int) - min (n + 1) ((p.ts.length : Nat) : Int)) ∧ v ≤ 1000000 := hR
 refine wp_seq ?_
 refine wp_seq ?_
 refine region_go (lst := [0, 1, 2, 3, 4, 5, 6, 7, 8]) (by kernel_rfl) ?_
 refine stepM hK 23 6 (by kernel_rfl) (.inl rfl) rfl fun a hK => ?_
 refine stepP hK 24 (pA b1 0) (by kernel_rfl) (by kernel_rfl) fun a hK => ?_
 refine stepLoad hK 25 (.slice p.A1 p.ds.length p.c1) (by kernel_rfl) rfl rfl ((hM.row 0 rfl).cells 0 1) (by kernel_rfl) fun a hK => ?_
 refine stepP hK 26 (.int .i64 ((p.ds.length : Nat) : Int)) (by kernel_rfl) (by kernel_rfl) fun a hK => ?_
 by_cases h2 : (((i : Nat) : Int) : Int) < ((p.ds.length : Nat) : Int)
 ·refine stepP hK 27 (.bool true) (by kernel_rfl) (okBool (b := (decide ((((i : Nat) : Int) : Int) < ((p.ds.length : Nat) : Int)))) (by kernel_rfl) (decide_eq_true h2)) fun a hK => ?_
  refine stepM hK 28 27 (by kernel_rfl) (.inl rfl) rfl fun a hK => ?_
  refine stepM hK 29 5 (by kernel_rfl) (.inl rfl) rfl fun a hK => ?_
  by_cases h3 : (0 : Int) ≤ v
  ·refine stepP hK 30 (.bool true) (by kernel_rfl) (okBool (b := (decide ((0 : Int) ≤ v))) (by kernel_rfl) (decide_eq_true h3)) fun a hK => ?_
   refine stepP hK 31 (.bool true) (by kernel_rfl) (by kernel_rfl) fun a hK => ?_
   refine region_done hK [(31, .bool true), (4, .bool false), (2, pA b1 0), (0, vG p), (1, .int .i64 n), (6, vN i), (5, .int .i64 v)] ⟨rfl, rfl, rfl, rfl, rfl, rfl, rfl, trivial⟩ fun a hK => ?_
   refine wp_cond_true (hK.get rfl) ?_
   refine wp_skip ?_
   refine wp_seq ?_
   refine wp_block ?_
   refine region_go (lst := [0, 1, 2, 3, 4, 5, 6, 7, 8, 9, 10]) (by kernel_rfl) ?_
   refine stepM hK 34 5 (by kernel_rfl) (.inl rfl) rfl fun a hK => ?_
   refine stepP hK 35 (pA b1 0) (by kernel_rfl) (by kernel_rfl) fun a hK => ?_
   refine stepLoad hK 36 (.slice p.A1 p.ds.length p.c1) (by kernel_rfl) rfl rfl ((hM.row 0 rfl).cells 0 1) (by kernel_rfl) fun a hK => ?_
   refine stepM hK 37 6 (by kernel_rfl) (.inl rfl) rfl fun a hK => ?_
   obtain ⟨t4, ht4⟩ : ∃ t, p.ds[(i : Nat)]? = some t := ⟨_, List.getElem?_eq_getElem (by omega)⟩
   obtain ⟨⟨at4, At4, ct4⟩, et4⟩ := hp.decls _ _ ht4; have nt4 := et4
   refine stepP hK 38 (.pointer (some (at4.add (i * 3)))) (by kernel_rfl) (run_ixA (k := i) (s := 3) rfl rfl At4 rfl Tryd.underlying22 (by kernel_rfl) (by omega)) fun a hK => ?_
   refine stepP hK 39 (.pointer (some (at4.add (i * 3)))) (by kernel_rfl) (by kernel_rfl) fun a hK => ?_
   refine stepLoad hK 40 (Str t4.nm) (by kernel_rfl) rfl rfl (((ct4.on hM.below)).addZ 1) (by kernel_rfl) fun a hK => ?_
   refine stepP hK 41 (.int .i64 ((t4.nm.length : Nat) : Int)) (by kernel_rfl) (by kernel_rfl) fun a hK => ?_
   refine stepP hK 42 (.int .i64 (((t4.nm.length / 20) : Nat) : Int)) (by kernel_rfl) (run_quoN (i := t4.nm.length) (j := 20) rfl rfl rfl (by decide) (by omega)) fun a hK => ?_
   refine stepP hK 43 (.int .i64 (v - (((t4.nm.length / 20) : Nat) : Int))) (by kernel_rfl) (run_subZ rfl rfl rfl (by omega) (by omega)) fun a hK => ?_
   refine stepM hK 5 43 (by kernel_rfl) (.inr rfl) rfl fun a hK => ?_
   refine region_done hK [(5, .int .i64 (v - (((t4.nm.length / 20) : Nat) : Int))), (31, .bool true), (4, .bool false), (2, pA b1 0), (0, vG p), (1, .int .i64 n), (6, vN i)] ⟨rfl, rfl, rfl, rfl, rfl, rfl, rfl, trivial⟩ fun a hK => ?_
   refine region_go (lst := [0, 1, 2]) (by kernel_rfl) ?_
   refine stepM hK 32 6 (by kernel_rfl) (.inl rfl) rfl fun a hK => ?_
   refine stepP hK 33 (.int .i64 (((i + 1) : Nat) : Int)) (by kernel_rfl) (run_addN (i := i) (j := 1) rfl rfl rfl (by omega)) fun a hK => ?_
   refine stepM hK 6 33 (by kernel_rfl) (.inr rfl) rfl fun a hK => ?_
   refine region_done hK [(6, .int .i64 (((i + 1) : Nat) : Int)), (5, .int .i64 (v - (((t4.nm.length / 20) : Nat) : Int))), (31, .bool true), (4, .bool false), (2, pA b1 0), (0, vG p), (1, .int .i64 n)] ⟨rfl, rfl, rfl, rfl, rfl, rfl, rfl, trivial⟩ fun a hK => ?_
   have hRn : (i + 1) ≤ p.ds.length ∧ dcsHf (p.ds.drop (i + 1)) ((v - (((t4.nm.length / 20) : Nat) : Int))) = dcsHf p.ds (n - min (n + 1) ((p.ds.length : Nat) : Int) - min (n + 1) ((p.ts.length : Nat) : Int)) ∧ ((v - (((t4.nm.length / 20) : Nat) : Int))) ≤ 1000000 := ⟨by omega, by rw [← dcsHf_step ht4 (by omega)]; exact hR.2.1, by omega⟩
   have hmn : p.ds.length - (i + 1) < p.ds.length - i := by omega
   exact ⟨(i + 1, (v - (((t4.nm.length / 20) : Nat) : Int))), hK.sub ⟨rfl, rfl, rfl, rfl, rfl, rfl, trivial⟩, hM, hRn, hmn⟩
  ·refine stepP hK 30 (.bool false) (by kernel_rfl) (okBool (b := (decide ((0 : Int) ≤ v))) (by kernel_rfl) (decide_eq_false h3)) fun a hK => ?_
   refine stepP hK 31 (.bool false) (by kernel_rfl) (by kernel_rfl) fun a hK => ?_
   refine region_done hK [(31, .bool false), (4, .bool false), (2, pA b1 0), (0, vG p), (1, .int .i64 n), (6, vN i), (5, .int .i64 v)] ⟨rfl, rfl, rfl, rfl, rfl, rfl, rfl, trivial⟩ fun a hK => ?_
   refine wp_cond_false (hK.get rfl) ?_
   refine wp_exit (exit_then (exit_then (exit_here 0 ?_)))
   refine wp_seq ?_
   refine wp_seq ?_
   refine region_go (lst := [0]) (by kernel_rfl) ?_
   refine stepP hK 7 (.int .i64 0) (by kernel_rfl) (by kernel_rfl) fun a hK => ?_
   refine region_done hK [(7, .int .i64 0), (31, .bool false), (4, .bool false), (2, pA b1 0), (0, vG p), (1, .int .i64 n), (6, vN i), (5, .int .i64 v)] ⟨rfl, rfl, rfl, rfl, rfl, rfl, rfl, rfl, trivial⟩ fun a hK => ?_
   refine wp_block ?_
   have hv : v = dcsHf p.ds (n - min (n + 1) ((p.ds.length : Nat) : Int) - min (n + 1) ((p.ts.length : Nat) : Int)) := by rw [← hR.2.1]; first | rw [dcsHf_neg _ (by omega)] | (rw [List.drop_of_length_le (by omega), dcsHf])
   refine wp_loopX (fun x : Nat × Int => [(31, .bool false), (4, .bool false), (2, pA b1 0), (0, vG p), (1, .int .i64 n), (6, vN i), (7, .int .i64 ((x.1 : Nat) : Int)), (5, .int .i64 x.2)]) (fun x : Nat × Int => [.row b1 25 [.slice p.A1 p.ds.length p.c1, .slice p.A2 p.ts.length p.c2]]) (fun x : Nat × Int => x.1 ≤ p.ts.length ∧ thsHf (p.ts.drop x.1) x.2 = thsHf p.ts v ∧ x.2 ≤ 1000000) (fun x : Nat × Int => p.ts.length - x.1) (0, v) (hK.sub ⟨rfl, rfl, rfl, rfl, rfl, rfl, rfl, rfl, trivial⟩) hM ⟨Nat.zero_le _, rfl, hR.2.2⟩ ?_
   rintro ⟨j, u⟩ a w hK hM hR
   replace hK : Knows a 64 [(31, .bool false), (4, .bool false), (2, pA b1 0), (0, vG p), (1, .int .i64 n), (6, vN i), (7, vN j), (5, .int .i64 u)] := hK
   replace hM : Mem w0 w [.row b1 25 [.slice p.A1 p.ds.length p.c1, .slice p.A2 p.ts.length p.c2]] := hM
   replace hR : j ≤ p.ts.length ∧ thsHf (p.ts.drop j) u = thsHf p.ts v ∧ u ≤ 1000000 := hR
   refine wp_seq ?_
   refine wp_seq ?_
   refine region_go (lst := [0, 1, 2, 3, 4, 5, 6, 7, 8]) (by kernel_rfl) ?_
   refine stepM hK 44 7 (by kernel_rfl) (.inl rfl) rfl fun a hK => ?_
   refine stepP hK 45 (pA b1 1) (by kernel_rfl) (by kernel_rfl) fun a hK => ?_
   refine stepLoad hK 46 (.slice p.A2 p.ts.length p.c2) (by kernel_rfl) rfl rfl ((hM.row 0 rfl).cells 1 1) (by kernel_rfl) fun a hK => ?_
   refine stepP hK 47 (.int .i64 ((p.ts.length : Nat) : Int)) (by kernel_rfl) (by kernel_rfl) fun a hK => ?_
   by_cases h5 : (((j : Nat) : Int) : Int) < ((p.ts.length : Nat) : Int)
   ·refine stepP hK 48 (.bool true) (by kernel_rfl) (okBool (b := (decide ((((j : Nat) : Int) : Int) < ((p.ts.length : Nat) : Int)))) (by kernel_rfl) (decide_eq_true h5)) fun a hK => ?_
    refine stepM hK 49 48 (by kernel_rfl) (.inl rfl) rfl fun a hK => ?_
    refine stepM hK 50 5 (by kernel_rfl) (.inl rfl) rfl fun a hK => ?_
    by_cases h6 : (0 : Int) ≤ u
    ·refine stepP hK 51 (.bool true) (by kernel_rfl) (okBool (b := (decide ((0 : Int) ≤ u))) (by kernel_rfl) (decide_eq_true h6)) fun a hK => ?_
     refine stepP hK 52 (.bool true) (by kernel_rfl) (by kernel_rfl) fun a hK => ?_
     refine region_done hK [(52, .bool true), (31, .bool false), (4, .bool false), (2, pA b1 0), (0, vG p), (1, .int .i64 n), (6, vN i), (7, vN j), (5, .int .i64 u)] ⟨rfl, rfl, rfl, rfl, rfl, rfl, rfl, rfl, rfl, trivial⟩ fun a hK => ?_
     refine wp_cond_true (hK.get rfl) ?_
     refine wp_skip ?_
     refine wp_seq ?_
     refine wp_block ?_
     refine region_go (lst := [0, 1, 2, 3, 4, 5, 6, 7]) (by kernel_rfl) ?_
     refine stepP hK 55 (pA b1 1) (by kernel_rfl) (by kernel_rfl) fun a hK => ?_
     refine stepLoad hK 56 (.slice p.A2 p.ts.length p.c2) (by kernel_rfl) rfl rfl ((hM.row 0 rfl).cells 1 1) (by kernel_rfl) fun a hK => ?_
     refine stepM hK 57 7 (by kernel_rfl) (.inl rfl) rfl fun a hK => ?_
     obtain ⟨t7, ht7⟩ : ∃ t, p.ts[(j : Nat)]? = some t := ⟨_, List.getElem?_eq_getElem (by omega)⟩
     obtain ⟨⟨at7, At7, ct7⟩, et7⟩ := hp.threads _ _ ht7; have nt7 := et7.2
     refine stepP hK 58 (.pointer (some (at7.add (j * 1)))) (by kernel_rfl) (run_ixA (k := j) (s := 1) rfl rfl At7 rfl Tryd.underlying23 (by kernel_rfl) (by omega)) fun a hK => ?_
     refine stepLoad hK 59 (.slice t7.A t7.l.length t7.c) (by kernel_rfl) rfl rfl ((ct7.on hM.below)) (by kernel_rfl) fun a hK => ?_
     refine stepM hK 60 5 (by kernel_rfl) (.inl rfl) rfl fun a hK => ?_
     refine stepRet hK hM 61 #[.slice t7.A t7.l.length t7.c, .int .i64 u] (.int .i64 (smsHf t7.l u)) (by kernel_rfl) (run_callE en_cantileverkit_hefts rfl rfl (by kernel_rfl)) (kit_hefts t7.l _ _ u _ (et7.1.on hM.below) (by omega) (by omega) (by omega)) fun a w hK hM => ?_
     refine stepM hK 5 61 (by kernel_rfl) (.inr rfl) rfl fun a hK => ?_
     refine region_done hK [(5, .int .i64 (smsHf t7.l u)), (52, .bool true), (31, .bool false), (4, .bool false), (2, pA b1 0), (0, vG p), (1, .int .i64 n), (6, vN i), (7, vN j)] ⟨rfl, rfl, rfl, rfl, rfl, rfl, rfl, rfl, rfl, trivial⟩ fun a hK => ?_
     refine region_go (lst := [0, 1, 2]) (by kernel_rfl) ?_
     refine stepM hK 53 7 (by kernel_rfl) (.inl rfl) rfl fun a hK => ?_
     refine stepP hK 54 (.int .i64 (((j + 1) : Nat) : Int)) (by kernel_rfl) (run_addN (i := j) (j := 1) rfl rfl rfl (by omega)) fun a hK => ?_
     refine stepM hK 7 54 (by kernel_rfl) (.inr rfl) rfl fun a hK => ?_
     refine region_done hK [(7, .int .i64 (((j + 1) : Nat) : Int)), (5, .int .i64 (smsHf t7.l u)), (52, .bool true), (31, .bool false), (4, .bool false), (2, pA b1 0), (0, vG p), (1, .int .i64 n), (6, vN i)] ⟨rfl, rfl, rfl, rfl, rfl, rfl, rfl, rfl, rfl, trivial⟩ fun a hK => ?_
     have hRn : (j + 1) ≤ p.ts.length ∧ thsHf (p.ts.drop (j + 1)) ((smsHf t7.l u)) = thsHf p.ts v ∧ ((smsHf t7.l u)) ≤ 1000000 := ⟨by omega, by rw [← thsHf_step ht7 (by omega)]; exact hR.2.1, by have h1 := smsHf_sz t7.l u; omega⟩
     have hmn : p.ts.length - (j + 1) < p.ts.length - j := by omega
     exact ⟨(j + 1, (smsHf t7.l u)), hK.sub ⟨rfl, rfl, rfl, rfl, rfl, rfl, rfl, rfl, trivial⟩, hM, hRn, hmn⟩
    ·refine stepP hK 51 (.bool false) (by kernel_rfl) (okBool (b := (decide ((0 : Int) ≤ u))) (by kernel_rfl) (decide_eq_false h6)) fun a hK => ?_
     refine stepP hK 52 (.bool false) (by kernel_rfl) (by kernel_rfl) fun a hK => ?_
     refine region_done hK [(52, .bool false), (31, .bool false), (4, .bool false), (2, pA b1 0), (0, vG p), (1, .int .i64 n), (6, vN i), (7, vN j), (5, .int .i64 u)] ⟨rfl, rfl, rfl, rfl, rfl, rfl, rfl, rfl, rfl, trivial⟩ fun a hK => ?_
     refine wp_cond_false (hK.get rfl) ?_
     refine wp_exit (exit_then (exit_then (exit_here 2 ?_)))
     refine wp_seq ?_
     refine region_go (lst := [0, 1, 2]) (by kernel_rfl) ?_
     refine stepM hK 62 5 (by kernel_rfl) (.inl rfl) rfl fun a hK => ?_
     refine stepP hK 63 (.bool false) (by kernel_rfl) (okBool (b := (decide ((0 : Int) ≤ u))) (by kernel_rfl) (decide_eq_false h6)) fun a hK => ?_
     refine stepM hK 4 63 (by kernel_rfl) (.inr rfl) rfl fun a hK => ?_
     refine region_done hK [(4, .bool false), (52, .bool false), (31, .bool false), (2, pA b1 0), (0, vG p), (1, .int .i64 n), (6, vN i), (7, vN j), (5, .int .i64 u)] ⟨rfl, rfl, rfl, rfl, rfl, rfl, rfl, rfl, rfl, trivial⟩ fun a hK => ?_
     refine wp_ret ?_
     exact ret_t hK rfl (u := (.bool false)) rfl (⟨by have hu : pgHf p n = u := (by unfold pgHf; rw [← hv, ← hR.2.1]; (first | rw [thsHf_neg _ (by omega)] | rw [List.drop_of_length_le (by omega), thsHf])); rw [hu, (decide_eq_false h6)], hM.below⟩)
   ·refine stepP hK 48 (.bool false) (by kernel_rfl) (okBool (b := (decide ((((j : Nat) : Int) : Int) < ((p.ts.length : Nat) : Int)))) (by kernel_rfl) (decide_eq_false h5)) fun a hK => ?_
    refine stepM hK 49 48 (by kernel_rfl) (.inl rfl) rfl fun a hK => ?_
    refine stepN hK 50 (by kernel_rfl) fun a hK => ?_
    refine stepN hK 51 (by kernel_rfl) fun a hK => ?_
    refine stepP hK 52 (.bool false) (by kernel_rfl) (by kernel_rfl) fun a hK => ?_
    refine region_done hK [(52, .bool false), (31, .bool false), (4, .bool false), (2, pA b1 0), (0, vG p), (1, .int .i64 n), (6, vN i), (7, vN j), (5, .int .i64 u)] ⟨rfl, rfl, rfl, rfl, rfl, rfl, rfl, rfl, rfl, trivial⟩ fun a hK => ?_
    refine wp_cond_false (hK.get rfl) ?_
    refine wp_exit (exit_then (exit_then (exit_here 2 ?_)))
    refine wp_seq ?_
    refine region_go (lst := [0, 1, 2]) (by kernel_rfl) ?_
    refine stepM hK 62 5 (by kernel_rfl) (.inl rfl) rfl fun a hK => ?_
    by_cases h8 : (0 : Int) ≤ u
    ·refine stepP hK 63 (.bool true) (by kernel_rfl) (okBool (b := (decide ((0 : Int) ≤ u))) (by kernel_rfl) (decide_eq_true h8)) fun a hK => ?_
     refine stepM hK 4 63 (by kernel_rfl) (.inr rfl) rfl fun a hK => ?_
     refine region_done hK [(4, .bool true), (52, .bool false), (31, .bool false), (2, pA b1 0), (0, vG p), (1, .int .i64 n), (6, vN i), (7, vN j), (5, .int .i64 u)] ⟨rfl, rfl, rfl, rfl, rfl, rfl, rfl, rfl, rfl, trivial⟩ fun a hK => ?_
     refine wp_ret ?_
     exact ret_t hK rfl (u := (.bool true)) rfl (⟨by have hu : pgHf p n = u := (by unfold pgHf; rw [← hv, ← hR.2.1]; (first | rw [thsHf_neg _ (by omega)] | rw [List.drop_of_length_le (by omega), thsHf])); rw [hu, (decide_eq_true h8)], hM.below⟩)
    ·refine stepP hK 63 (.bool false) (by kernel_rfl) (okBool (b := (decide ((0 : Int) ≤ u))) (by kernel_rfl) (decide_eq_false h8)) fun a hK => ?_
     refine stepM hK 4 63 (by kernel_rfl) (.inr rfl) rfl fun a hK => ?_
     refine region_done hK [(4, .bool false), (52, .bool false), (31, .bool false), (2, pA b1 0), (0, vG p), (1, .int .i64 n), (6, vN i), (7, vN j), (5, .int .i64 u)] ⟨rfl, rfl, rfl, rfl, rfl, rfl, rfl, rfl, rfl, trivial⟩ fun a hK => ?_
     refine wp_ret ?_
     exact ret_t hK rfl (u := (.bool false)) rfl (⟨by have hu : pgHf p n = u := (by unfold pgHf; rw [← hv, ← hR.2.1]; (first | rw [thsHf_neg _ (by omega)] | rw [List.drop_of_length_le (by omega), thsHf])); rw [hu, (decide_eq_false h8)], hM.below⟩)
 ·refine stepP hK 27 (.bool false) (by kernel_rfl) (okBool (b := (decide ((((i : Nat) : Int) : Int) < ((p.ds.length : Nat) : Int)))) (by kernel_rfl) (decide_eq_false h2)) fun a hK => ?_
  refine stepM hK 28 27 (by kernel_rfl) (.inl rfl) rfl fun a hK => ?_
  refine stepN hK 29 (by kernel_rfl) fun a hK => ?_
  refine stepN hK 30 (by kernel_rfl) fun a hK => ?_
  refine stepP hK 31 (.bool false) (by kernel_rfl) (by kernel_rfl) fun a hK => ?_
  refine region_done hK [(31, .bool false), (4, .bool false), (2, pA b1 0), (0, vG p), (1, .int .i64 n), (6, vN i), (5, .int .i64 v)] ⟨rfl, rfl, rfl, rfl, rfl, rfl, rfl, trivial⟩ fun a hK => ?_
  refine wp_cond_false (hK.get rfl) ?_
  refine wp_exit (exit_then (exit_then (exit_here 0 ?_)))
  refine wp_seq ?_
  refine wp_seq ?_
  refine region_go (lst := [0]) (by kernel_rfl) ?_
  refine stepP hK 7 (.int .i64 0) (by kernel_rfl) (by kernel_rfl) fun a hK => ?_
  refine region_done hK [(7, .int .i64 0), (31, .bool false), (4, .bool false), (2, pA b1 0), (0, vG p), (1, .int .i64 n), (6, vN i), (5, .int .i64 v)] ⟨rfl, rfl, rfl, rfl, rfl, rfl, rfl, rfl, trivial⟩ fun a hK => ?_
  refine wp_block ?_
  have hv : v = dcsHf p.ds (n - min (n + 1) ((p.ds.length : Nat) : Int) - min (n + 1) ((p.ts.length : Nat) : Int)) := by rw [← hR.2.1]; first | rw [dcsHf_neg _ (by omega)] | (rw [List.drop_of_length_le (by omega), dcsHf])
  refine wp_loopX (fun x : Nat × Int => [(31, .bool false), (4, .bool false), (2, pA b1 0), (0, vG p), (1, .int .i64 n), (6, vN i), (7, .int .i64 ((x.1 : Nat) : Int)), (5, .int .i64 x.2)]) (fun x : Nat × Int => [.row b1 25 [.slice p.A1 p.ds.length p.c1, .slice p.A2 p.ts.length p.c2]]) (fun x : Nat × Int => x.1 ≤ p.ts.length ∧ thsHf (p.ts.drop x.1) x.2 = thsHf p.ts v ∧ x.2 ≤ 1000000) (fun x : Nat × Int => p.ts.length - x.1) (0, v) (hK.sub ⟨rfl, rfl, rfl, rfl, rfl, rfl, rfl, rfl, trivial⟩) hM ⟨Nat.zero_le _, rfl, hR.2.2⟩ ?_
  rintro ⟨j, u⟩ a w hK hM hR
  replace hK : Knows a 64 [(31, .bool false), (4, .bool false), (2, pA b1 0), (0, vG p), (1, .int .i64 n), (6, vN i), (7, vN j), (5, .int .i64 u)] := hK
  replace hM : Mem w0 w [.row b1 25 [.slice p.A1 p.ds.length p.c1, .slice p.A2 p.ts.length p.c2]] := hM
  replace hR : j ≤ p.ts.length ∧ thsHf (p.ts.drop j) u = thsHf p.ts v ∧ u ≤ 1000000 := hR
  refine wp_seq ?_
  refine wp_seq ?_
  refine region_go (lst := [0, 1, 2, 3, 4, 5, 6, 7, 8]) (by kernel_rfl) ?_
  refine stepM hK 44 7 (by kernel_rfl) (.inl rfl) rfl fun a hK => ?_
  refine stepP hK 45 (pA b1 1) (by kernel_rfl) (by kernel_rfl) fun a hK => ?_
  refine stepLoad hK 46 (.slice p.A2 p.ts.length p.c2) (by kernel_rfl) rfl rfl ((hM.row 0 rfl).cells 1 1) (by kernel_rfl) fun a hK => ?_
  refine stepP hK 47 (.int .i64 ((p.ts.length : Nat) : Int)) (by kernel_rfl) (by kernel_rfl) fun a hK => ?_
  by_cases h9 : (((j : Nat) : Int) : Int) < ((p.ts.length : Nat) : Int)
  ·refine stepP hK 48 (.bool true) (by kernel_rfl) (okBool (b := (decide ((((j : Nat) : Int) : Int) < ((p.ts.length : Nat) : Int)))) (by kernel_rfl) (decide_eq_true h9)) fun a hK => ?_
   refine stepM hK 49 48 (by kernel_rfl) (.inl rfl) rfl fun a hK => ?_
   refine stepM hK 50 5 (by kernel_rfl) (.inl rfl) rfl fun a hK => ?_
   by_cases h10 : (0 : Int) ≤ u
   ·refine stepP hK 51 (.bool true) (by kernel_rfl) (okBool (b := (decide ((0 : Int) ≤ u))) (by kernel_rfl) (decide_eq_true h10)) fun a hK => ?_
    refine stepP hK 52 (.bool true) (by kernel_rfl) (by kernel_rfl) fun a hK => ?_
    refine region_done hK [(52, .bool true), (31, .bool false), (4, .bool false), (2, pA b1 0), (0, vG p), (1, .int .i64 n), (6, vN i), (7, vN j), (5, .int .i64 u)] ⟨rfl, rfl, rfl, rfl, rfl, rfl, rfl, rfl, rfl, trivial⟩ fun a hK => ?_
    refine wp_cond_true (hK.get rfl) ?_
    refine wp_skip ?_
    refine wp_seq ?_
    refine wp_block ?_
    refine region_go (lst := [0, 1, 2, 3, 4, 5, 6, 7]) (by kernel_rfl) ?_
    refine stepP hK 55 (pA b1 1) (by kernel_rfl) (by kernel_rfl) fun a hK => ?_
    refine stepLoad hK 56 (.slice p.A2 p.ts.length p.c2) (by kernel_rfl) rfl rfl ((hM.row 0 rfl).cells 1 1) (by kernel_rfl) fun a hK => ?_
    refine stepM hK 57 7 (by kernel_rfl) (.inl rfl) rfl fun a hK => ?_
    obtain ⟨t11, ht11⟩ : ∃ t, p.ts[(j : Nat)]? = some t := ⟨_, List.getElem?_eq_getElem (by omega)⟩
    obtain ⟨⟨at11, At11, ct11⟩, et11⟩ := hp.threads _ _ ht11; have nt11 := et11.2
    refine stepP hK 58 (.pointer (some (at11.add (j * 1)))) (by kernel_rfl) (run_ixA (k := j) (s := 1) rfl rfl At11 rfl Tryd.underlying23 (by kernel_rfl) (by omega)) fun a hK => ?_
    refine stepLoad hK 59 (.slice t11.A t11.l.length t11.c) (by kernel_rfl) rfl rfl ((ct11.on hM.below)) (by kernel_rfl) fun a hK => ?_
    refine stepM hK 60 5 (by kernel_rfl) (.inl rfl) rfl fun a hK => ?_
    refine stepRet hK hM 61 #[.slice t11.A t11.l.length t11.c, .int .i64 u] (.int .i64 (smsHf t11.l u)) (by kernel_rfl) (run_callE en_cantileverkit_hefts rfl rfl (by kernel_rfl)) (kit_hefts t11.l _ _ u _ (et11.1.on hM.below) (by omega) (by omega) (by omega)) fun a w hK hM => ?_
    refine stepM hK 5 61 (by kernel_rfl) (.inr rfl) rfl fun a hK => ?_
    refine region_done hK [(5, .int .i64 (smsHf t11.l u)), (52, .bool true), (31, .bool false), (4, .bool false), (2, pA b1 0), (0, vG p), (1, .int .i64 n), (6, vN i), (7, vN j)] ⟨rfl, rfl, rfl, rfl, rfl, rfl, rfl, rfl, rfl, trivial⟩ fun a hK => ?_
    refine region_go (lst := [0, 1, 2]) (by kernel_rfl) ?_
    refine stepM hK 53 7 (by kernel_rfl) (.inl rfl) rfl fun a hK => ?_
    refine stepP hK 54 (.int .i64 (((j + 1) : Nat) : Int)) (by kernel_rfl) (run_addN (i := j) (j := 1) rfl rfl rfl (by omega)) fun a hK => ?_
    refine stepM hK 7 54 (by kernel_rfl) (.inr rfl) rfl fun a hK => ?_
    refine region_done hK [(7, .int .i64 (((j + 1) : Nat) : Int)), (5, .int .i64 (smsHf t11.l u)), (52, .bool true), (31, .bool false), (4, .bool false), (2, pA b1 0), (0, vG p), (1, .int .i64 n), (6, vN i)] ⟨rfl, rfl, rfl, rfl, rfl, rfl, rfl, rfl, rfl, trivial⟩ fun a hK => ?_
    have hRn : (j + 1) ≤ p.ts.length ∧ thsHf (p.ts.drop (j + 1)) ((smsHf t11.l u)) = thsHf p.ts v ∧ ((smsHf t11.l u)) ≤ 1000000 := ⟨by omega, by rw [← thsHf_step ht11 (by omega)]; exact hR.2.1, by have h1 := smsHf_sz t11.l u; omega⟩
    have hmn : p.ts.length - (j + 1) < p.ts.length - j := by omega
    exact ⟨(j + 1, (smsHf t11.l u)), hK.sub ⟨rfl, rfl, rfl, rfl, rfl, rfl, rfl, rfl, trivial⟩, hM, hRn, hmn⟩
   ·refine stepP hK 51 (.bool false) (by kernel_rfl) (okBool (b := (decide ((0 : Int) ≤ u))) (by kernel_rfl) (decide_eq_false h10)) fun a hK => ?_
    refine stepP hK 52 (.bool false) (by kernel_rfl) (by kernel_rfl) fun a hK => ?_
    refine region_done hK [(52, .bool false), (31, .bool false), (4, .bool false), (2, pA b1 0), (0, vG p), (1, .int .i64 n), (6, vN i), (7, vN j), (5, .int .i64 u)] ⟨rfl, rfl, rfl, rfl, rfl, rfl, rfl, rfl, rfl, trivial⟩ fun a hK => ?_
    refine wp_cond_false (hK.get rfl) ?_
    refine wp_exit (exit_then (exit_then (exit_here 2 ?_)))
    refine wp_seq ?_
    refine region_go (lst := [0, 1, 2]) (by kernel_rfl) ?_
    refine stepM hK 62 5 (by kernel_rfl) (.inl rfl) rfl fun a hK => ?_
    refine stepP hK 63 (.bool false) (by kernel_rfl) (okBool (b := (decide ((0 : Int) ≤ u))) (by kernel_rfl) (decide_eq_false h10)) fun a hK => ?_
    refine stepM hK 4 63 (by kernel_rfl) (.inr rfl) rfl fun a hK => ?_
    refine region_done hK [(4, .bool false), (52, .bool false), (31, .bool false), (2, pA b1 0), (0, vG p), (1, .int .i64 n), (6, vN i), (7, vN j), (5, .int .i64 u)] ⟨rfl, rfl, rfl, rfl, rfl, rfl, rfl, rfl, rfl, trivial⟩ fun a hK => ?_
    refine wp_ret ?_
    exact ret_t hK rfl (u := (.bool false)) rfl (⟨by have hu : pgHf p n = u := (by unfold pgHf; rw [← hv, ← hR.2.1]; (first | rw [thsHf_neg _ (by omega)] | rw [List.drop_of_length_le (by omega), thsHf])); rw [hu, (decide_eq_false h10)], hM.below⟩)
  ·refine stepP hK 48 (.bool false) (by kernel_rfl) (okBool (b := (decide ((((j : Nat) : Int) : Int) < ((p.ts.length : Nat) : Int)))) (by kernel_rfl) (decide_eq_false h9)) fun a hK => ?_
   refine stepM hK 49 48 (by kernel_rfl) (.inl rfl) rfl fun a hK => ?_
   refine stepN hK 50 (by kernel_rfl) fun a hK => ?_
   refine stepN hK 51 (by kernel_rfl) fun a hK => ?_
   refine stepP hK 52 (.bool false) (by kernel_rfl) (by kernel_rfl) fun a hK => ?_
   refine region_done hK [(52, .bool false), (31, .bool false), (4, .bool false), (2, pA b1 0), (0, vG p), (1, .int .i64 n), (6, vN i), (7, vN j), (5, .int .i64 u)] ⟨rfl, rfl, rfl, rfl, rfl, rfl, rfl, rfl, rfl, trivial⟩ fun a hK => ?_
   refine wp_cond_false (hK.get rfl) ?_
   refine wp_exit (exit_then (exit_then (exit_here 2 ?_)))
   refine wp_seq ?_
   refine region_go (lst := [0, 1, 2]) (by kernel_rfl) ?_
   refine stepM hK 62 5 (by kernel_rfl) (.inl rfl) rfl fun a hK => ?_
   by_cases h12 : (0 : Int) ≤ u
   ·refine stepP hK 63 (.bool true) (by kernel_rfl) (okBool (b := (decide ((0 : Int) ≤ u))) (by kernel_rfl) (decide_eq_true h12)) fun a hK => ?_
    refine stepM hK 4 63 (by kernel_rfl) (.inr rfl) rfl fun a hK => ?_
    refine region_done hK [(4, .bool true), (52, .bool false), (31, .bool false), (2, pA b1 0), (0, vG p), (1, .int .i64 n), (6, vN i), (7, vN j), (5, .int .i64 u)] ⟨rfl, rfl, rfl, rfl, rfl, rfl, rfl, rfl, rfl, trivial⟩ fun a hK => ?_
    refine wp_ret ?_
    exact ret_t hK rfl (u := (.bool true)) rfl (⟨by have hu : pgHf p n = u := (by unfold pgHf; rw [← hv, ← hR.2.1]; (first | rw [thsHf_neg _ (by omega)] | rw [List.drop_of_length_le (by omega), thsHf])); rw [hu, (decide_eq_true h12)], hM.below⟩)
   ·refine stepP hK 63 (.bool false) (by kernel_rfl) (okBool (b := (decide ((0 : Int) ≤ u))) (by kernel_rfl) (decide_eq_false h12)) fun a hK => ?_
    refine stepM hK 4 63 (by kernel_rfl) (.inr rfl) rfl fun a hK => ?_
    refine region_done hK [(4, .bool false), (52, .bool false), (31, .bool false), (2, pA b1 0), (0, vG p), (1, .int .i64 n), (6, vN i), (7, vN j), (5, .int .i64 u)] ⟨rfl, rfl, rfl, rfl, rfl, rfl, rfl, rfl, rfl, trivial⟩ fun a hK => ?_
    refine wp_ret ?_
    exact ret_t hK rfl (u := (.bool false)) rfl (⟨by have hu : pgHf p n = u := (by unfold pgHf; rw [← hv, ← hR.2.1]; (first | rw [thsHf_neg _ (by omega)] | rw [List.drop_of_length_le (by omega), thsHf])); rw [hu, (decide_eq_false h12)], hM.below⟩)
end Go.Proofs.YtiigncmpbkfhmaaDoor
