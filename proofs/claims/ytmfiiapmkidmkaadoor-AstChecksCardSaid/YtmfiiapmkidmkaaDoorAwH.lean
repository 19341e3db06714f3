/-
 Regs of package ast.
-/
import Derived.Test.YtmfiiapmkidmkaaDoorMapS
import Derived.Test.YtmfiiapmkidmkaaDoorAwF
import Derived.Test.YtmfiiapmkidmkaaDoorAwE
namespace Go.Proofs.YtmfiiapmkidmkaaDoor
open Go Go.RowKit

theorem en_ast_Regs : Enters Tryd.prog 25 := enters_of Tryd.func25 (by kernel_rfl) rfl
theorem en_ast_Regs_1 : Enters Tryd.prog 55 := enters_of Tryd.func55 (by kernel_rfl) rfl
theorem en_ast_Regs_2 : Enters Tryd.prog 56 := enters_of Tryd.func56 (by kernel_rfl) rfl
theorem en_ast_Regs_3 : Enters Tryd.prog 57 := enters_of Tryd.func57 (by kernel_rfl) rfl
theorem en_mKeys : Enters Tryd.prog 60 := enters_of Tryd.func60 (by kernel_rfl) rfl
theorem en_sSorted : Enters Tryd.prog 59 := enters_of Tryd.func59 (by kernel_rfl) rfl
theorem en_eachS : Enters Tryd.prog 58 := enters_of Tryd.func58 (by kernel_rfl) rfl
def noteE (e : Ex) (_d : Nat) (ks : List (List UInt8)) : Bool × List (List UInt8) := (true, if e.op = 2 then noteL e.nm ks else ks)
def noteS (s : Sm) (_d : Nat) (ks : List (List UInt8)) : Bool × List (List UInt8) := (true, noteL s.nm ks)
def okR (k : Nat) (ks : List (List UInt8)) : Prop := ks.length + k ≤ 1000000 ∧ ks.Nodup
theorem okR_note {k : Nat} {ks : List (List UInt8)} (h : okR (k + 1) ks) (s : List UInt8) : okR k (noteL s ks) := by
 refine ⟨?_, noteL_nodup h.2⟩
 have := h.1
 unfold noteL
 split
 ·omega
 ·split
  ·omega
  ·rw [List.length_append, List.length_singleton]; omega
set_option maxRecDepth 100000 in
set_option maxHeartbeats 4000000 in
theorem ast_note (s : List UInt8) (bx bm : Nat) (ks : List (List UInt8)) (F : List It) (w0 w1 : World) (hM0 : Mem w0 w1 ((.row bx 78 [.map (some bm)] :: .obj bm (setObjS ks) :: F))) : Calls Tryd.prog 55 #[Str s, .pointer (some ⟨bx, 0, none⟩)] w1 (Gives w0 (fun _ : List (List UInt8) => .bool true) (fun ks' => (.row bx 78 [.map (some bm)] :: .obj bm (setObjS ks') :: F)) fun ks' => ks' = noteL s ks) := by
 refine calls_KM (args := [Str s, .pointer (some ⟨bx, 0, none⟩)]) (n := 9) (env := [(0, Str s), (1, .pointer (some ⟨bx, 0, none⟩))]) Tryd.func55 rfl rfl rfl ⟨rfl, rfl, trivial⟩ hM0 fun a w hK hM => ?_
 refine wp_seq ?_
 refine region_go (lst := [0]) (by kernel_rfl) ?_
 refine stepP hK 3 (.bool false) (by kernel_rfl) (by kernel_rfl) fun a hK => ?_
 refine region_done hK [(3, .bool false), (0, Str s), (1, .pointer (some ⟨bx, 0, none⟩))] ⟨rfl, rfl, rfl, trivial⟩ fun a hK => ?_
 refine wp_seq ?_
 refine wp_seq ?_
 refine region_go (lst := [0, 1]) (by kernel_rfl) ?_
 refine stepM hK 4 0 (by kernel_rfl) (.inl rfl) rfl fun a hK => ?_
 rcases Bool.eq_false_or_eq_true (!(decide (s = []))) with h1 | h1
 ·refine stepP hK 5 (.bool true) (by kernel_rfl) (okBool (b := (!(decide (s = [])))) (run_neS rfl rfl rfl) h1) fun a hK => ?_
  refine region_done hK [(5, .bool true), (3, .bool false), (0, Str s), (1, .pointer (some ⟨bx, 0, none⟩))] ⟨rfl, rfl, rfl, rfl, trivial⟩ fun a hK => ?_
  refine wp_cond_true (hK.get rfl) ?_
  refine region_go (lst := [0, 1, 2, 3]) (by kernel_rfl) ?_
  refine stepLoad hK 6 (.map (some bm)) (by kernel_rfl) rfl rfl ((hM.row 0 rfl).cells 0 1) (by kernel_rfl) fun a hK => ?_
  refine stepM hK 7 0 (by kernel_rfl) (.inl rfl) rfl fun a hK => ?_
  refine stepP hK 8 (.agg #[]) (by kernel_rfl) (by kernel_rfl) fun a hK => ?_
  refine stepSetObj hK hM 1 (setObjS (noteL s ks)) (by kernel_rfl) rfl (run_updS rfl rfl rfl rfl (by have h9 := h1; simpa using h9) (hM.obj 1 rfl)) fun w hM => ?_
  replace hM := hM.to (.row bx 78 [.map (some bm)] :: .obj bm (setObjS (noteL s ks)) :: F) (by kernel_rfl)
  refine region_done hK [(5, .bool true), (3, .bool false), (0, Str s), (1, .pointer (some ⟨bx, 0, none⟩))] ⟨rfl, rfl, rfl, rfl, trivial⟩ fun a hK => ?_
  refine wp_seq ?_
  refine region_go (lst := [0]) (by kernel_rfl) ?_
  refine stepP hK 3 (.bool true) (by kernel_rfl) (by kernel_rfl) fun a hK => ?_
  refine region_done hK [(3, .bool true), (5, .bool true), (0, Str s), (1, .pointer (some ⟨bx, 0, none⟩))] ⟨rfl, rfl, rfl, rfl, trivial⟩ fun a hK => ?_
  refine wp_ret ?_
  exact ret_t hK rfl (u := (.bool true)) rfl (⟨noteL s ks, rfl, hM, rfl⟩)
 ·refine stepP hK 5 (.bool false) (by kernel_rfl) (okBool (b := (!(decide (s = [])))) (run_neS rfl rfl rfl) h1) fun a hK => ?_
  refine region_done hK [(5, .bool false), (3, .bool false), (0, Str s), (1, .pointer (some ⟨bx, 0, none⟩))] ⟨rfl, rfl, rfl, rfl, trivial⟩ fun a hK => ?_
  refine wp_cond_false (hK.get rfl) ?_
  refine wp_skip ?_
  refine wp_seq ?_
  refine region_go (lst := [0]) (by kernel_rfl) ?_
  refine stepP hK 3 (.bool true) (by kernel_rfl) (by kernel_rfl) fun a hK => ?_
  refine region_done hK [(3, .bool true), (5, .bool false), (0, Str s), (1, .pointer (some ⟨bx, 0, none⟩))] ⟨rfl, rfl, rfl, rfl, trivial⟩ fun a hK => ?_
  refine wp_ret ?_
  exact ret_t hK rfl (u := (.bool true)) rfl (⟨ks, rfl, hM, by unfold noteL; rw [if_pos (by have h9 := h1; simpa using h9)]⟩)
set_option maxRecDepth 100000 in
set_option maxHeartbeats 4000000 in
theorem step_rE (w0 : World) (bn bx bm : Nat) : StepE w0 (fun ks => [.row bn 66 [.func (.func 55) #[] #[.pointer (some ⟨bx, 0, none⟩)]], .row bx 78 [.map (some bm)], .obj bm (setObjS ks)]) okR noteE 56 #[.pointer (some ⟨bn, 0, none⟩)] := by
 refine ⟨en_ast_Regs_2, ?_, fun e d k ks h1 _ => by unfold noteE; show okR k (if e.op = 2 then _ else _); split; exact okR_note h1 _; exact ⟨by have := h1.1; omega, h1.2⟩⟩
 intro e d k ks F w1 hM0 he hs hd hok
 replace hM0 : Mem w0 w1 ((.row bn 66 [.func (.func 55) #[] #[.pointer (some ⟨bx, 0, none⟩)]] :: .row bx 78 [.map (some bm)] :: .obj bm (setObjS ks) :: F)) := hM0
 refine calls_KM (args := [.agg #[.int .i64 e.op, .int .i64 e.num, Str e.nm, .slice e.A e.ks.length e.c], .int .i64 ((d : Nat) : Int), .pointer (some ⟨bn, 0, none⟩)]) (n := 15) (env := [(0, .agg #[.int .i64 e.op, .int .i64 e.num, Str e.nm, .slice e.A e.ks.length e.c]), (1, .int .i64 ((d : Nat) : Int)), (2, .pointer (some ⟨bn, 0, none⟩))]) Tryd.func56 rfl rfl rfl ⟨rfl, rfl, rfl, trivial⟩ hM0 fun a w hK hM => ?_
 refine wp_seq ?_
 refine region_go (lst := [0, 1]) (by kernel_rfl) ?_
 refine stepAlloc hK hM 3 36 [.int .i64 e.op, .int .i64 e.num, Str e.nm, .slice e.A e.ks.length e.c] (fun b => .pointer (some ⟨b, 0, none⟩)) (by kernel_rfl) (by kernel_rfl) fun b1 a w hK hM => ?_
 refine stepP hK 5 (.bool false) (by kernel_rfl) (by kernel_rfl) fun a hK => ?_
 refine region_done hK [(5, .bool false), (3, .pointer (some ⟨b1, 0, none⟩)), (0, .agg #[.int .i64 e.op, .int .i64 e.num, Str e.nm, .slice e.A e.ks.length e.c]), (2, .pointer (some ⟨bn, 0, none⟩))] ⟨rfl, rfl, rfl, rfl, trivial⟩ fun a hK => ?_
 refine wp_seq ?_
 refine region_go (lst := [0, 1, 2, 3, 4, 5, 6, 7, 8, 9]) (by kernel_rfl) ?_
 refine stepP hK 6 (.pointer (some ⟨b1, 0, none⟩)) (by kernel_rfl) (by kernel_rfl) fun a hK => ?_
 refine stepLoad hK 7 (.int .i64 e.op) (by kernel_rfl) rfl rfl ((hM.row 0 rfl).cells 0 1) (by kernel_rfl) fun a hK => ?_
 rcases Bool.eq_false_or_eq_true (!(decide ((e.op : Int) = 2))) with h2 | h2
 ·refine stepP hK 8 (.bool true) (by kernel_rfl) (okBool (b := (!(decide ((e.op : Int) = 2)))) (by kernel_rfl) h2) fun a hK => ?_
  refine stepM hK 9 8 (by kernel_rfl) (.inl rfl) rfl fun a hK => ?_
  refine stepN hK 10 (by kernel_rfl) fun a hK => ?_
  refine stepN hK 11 (by kernel_rfl) fun a hK => ?_
  refine stepN hK 12 (by kernel_rfl) fun a hK => ?_
  refine stepN hK 13 (by kernel_rfl) fun a hK => ?_
  refine stepP hK 14 (.bool true) (by kernel_rfl) (by kernel_rfl) fun a hK => ?_
  refine stepM hK 5 14 (by kernel_rfl) (.inr rfl) rfl fun a hK => ?_
  refine region_done hK [(5, .bool true), (3, .pointer (some ⟨b1, 0, none⟩)), (0, .agg #[.int .i64 e.op, .int .i64 e.num, Str e.nm, .slice e.A e.ks.length e.c]), (2, .pointer (some ⟨bn, 0, none⟩))] ⟨rfl, rfl, rfl, rfl, trivial⟩ fun a hK => ?_
  refine wp_ret ?_
  exact ret_t hK rfl (u := (.bool true)) rfl (⟨(true, ks), rfl, (hM.drop 1), by unfold noteE; rw [if_neg (by have h9 := h2; simpa using h9)]⟩)
 ·refine stepP hK 8 (.bool false) (by kernel_rfl) (okBool (b := (!(decide ((e.op : Int) = 2)))) (by kernel_rfl) h2) fun a hK => ?_
  refine stepM hK 9 8 (by kernel_rfl) (.inl rfl) rfl fun a hK => ?_
  refine stepLoad hK 10 (.func (.func 55) #[] #[.pointer (some ⟨bx, 0, none⟩)]) (by kernel_rfl) rfl rfl ((hM.row 1 rfl).cells 0 1) (by kernel_rfl) fun a hK => ?_
  refine stepP hK 11 (.pointer (some ⟨b1, 2, none⟩)) (by kernel_rfl) (by kernel_rfl) fun a hK => ?_
  refine stepLoad hK 12 (Str e.nm) (by kernel_rfl) rfl rfl ((hM.row 0 rfl).cells 2 1) (by kernel_rfl) fun a hK => ?_
  have hc3m : Mem w0 _ (.row bx 78 [.map (some bm)] :: .obj bm (setObjS ks) :: .row b1 36 [.int .i64 e.op, .int .i64 e.num, Str e.nm, .slice e.A e.ks.length e.c] :: .row bn 66 [.func (.func 55) #[] #[.pointer (some ⟨bx, 0, none⟩)]] :: F) := (hM.order [[.row b1 36 [.int .i64 e.op, .int .i64 e.num, Str e.nm, .slice e.A e.ks.length e.c]], [.row bn 66 [.func (.func 55) #[] #[.pointer (some ⟨bx, 0, none⟩)]]], [.row bx 78 [.map (some bm)]], [.obj bm (setObjS ks)], F] [2, 3, 0, 1, 4] 5 rfl (by simp) (by decide) ((.row bx 78 [.map (some bm)] :: .obj bm (setObjS ks) :: .row b1 36 [.int .i64 e.op, .int .i64 e.num, Str e.nm, .slice e.A e.ks.length e.c] :: .row bn 66 [.func (.func 55) #[] #[.pointer (some ⟨bx, 0, none⟩)]] :: F)) (by simp))
  have hc3 := ast_note e.nm bx bm ks (.row b1 36 [.int .i64 e.op, .int .i64 e.num, Str e.nm, .slice e.A e.ks.length e.c] :: .row bn 66 [.func (.func 55) #[] #[.pointer (some ⟨bx, 0, none⟩)]] :: F) _ _ hc3m
  refine stepCallIn hK 13 #[Str e.nm, .pointer (some ⟨bx, 0, none⟩)] (by kernel_rfl) (run_callE en_ast_Regs_1 rfl rfl (by kernel_rfl)) (hc3) ?_
  rintro k4 a w hR5 hK hM
  replace hM := hM.to (.row bx 78 [.map (some bm)] :: .obj bm (setObjS k4) :: .row b1 36 [.int .i64 e.op, .int .i64 e.num, Str e.nm, .slice e.A e.ks.length e.c] :: .row bn 66 [.func (.func 55) #[] #[.pointer (some ⟨bx, 0, none⟩)]] :: F) (by kernel_rfl)
  refine stepP hK 14 (.bool true) (by kernel_rfl) (by kernel_rfl) fun a hK => ?_
  refine stepM hK 5 14 (by kernel_rfl) (.inr rfl) rfl fun a hK => ?_
  refine region_done hK [(5, .bool true), (3, .pointer (some ⟨b1, 0, none⟩)), (0, .agg #[.int .i64 e.op, .int .i64 e.num, Str e.nm, .slice e.A e.ks.length e.c]), (2, .pointer (some ⟨bn, 0, none⟩))] ⟨rfl, rfl, rfl, rfl, trivial⟩ fun a hK => ?_
  refine wp_ret ?_
  exact ret_t hK rfl (u := (.bool true)) rfl (⟨(true, k4), rfl, ((hM.order [[.row bx 78 [.map (some bm)]], [.obj bm (setObjS k4)], [.row b1 36 [.int .i64 e.op, .int .i64 e.num, Str e.nm, .slice e.A e.ks.length e.c]], [.row bn 66 [.func (.func 55) #[] #[.pointer (some ⟨bx, 0, none⟩)]]], F] [2, 3, 0, 1, 4] 5 rfl (by simp) (by decide) ((.row b1 36 [.int .i64 e.op, .int .i64 e.num, Str e.nm, .slice e.A e.ks.length e.c] :: .row bn 66 [.func (.func 55) #[] #[.pointer (some ⟨bx, 0, none⟩)]] :: .row bx 78 [.map (some bm)] :: .obj bm (setObjS k4) :: F)) (by simp)).drop 1), by unfold noteE; rw [hR5, if_pos (by have h9 := h2; simpa using h9)]⟩)
set_option maxRecDepth 100000 in
set_option maxHeartbeats 4000000 in
theorem step_rS (w0 : World) (bn bx bm : Nat) : StepS w0 (fun ks => [.row bn 66 [.func (.func 55) #[] #[.pointer (some ⟨bx, 0, none⟩)]], .row bx 78 [.map (some bm)], .obj bm (setObjS ks)]) okR noteS 57 #[.pointer (some ⟨bn, 0, none⟩)] := by
 refine ⟨en_ast_Regs_3, ?_, fun e d k ks h1 _ => okR_note h1 _⟩
 intro e d k ks F w1 hM0 he hs hd hok
 replace hM0 : Mem w0 w1 ((.row bn 66 [.func (.func 55) #[] #[.pointer (some ⟨bx, 0, none⟩)]] :: .row bx 78 [.map (some bm)] :: .obj bm (setObjS ks) :: F)) := hM0
 refine calls_KM (args := [.agg #[.int .i64 e.kind, Str e.nm, Str e.loc, .int .i64 e.ord, .slice e.A1 e.es.length e.c1, .slice e.A2 e.th.length e.c2, .slice e.A3 e.el.length e.c3], .int .i64 ((d : Nat) : Int), .pointer (some ⟨bn, 0, none⟩)]) (n := 10) (env := [(0, .agg #[.int .i64 e.kind, Str e.nm, Str e.loc, .int .i64 e.ord, .slice e.A1 e.es.length e.c1, .slice e.A2 e.th.length e.c2, .slice e.A3 e.el.length e.c3]), (1, .int .i64 ((d : Nat) : Int)), (2, .pointer (some ⟨bn, 0, none⟩))]) Tryd.func57 rfl rfl rfl ⟨rfl, rfl, rfl, trivial⟩ hM0 fun a w hK hM => ?_
 refine wp_seq ?_
 refine region_go (lst := [0, 1]) (by kernel_rfl) ?_
 refine stepAlloc hK hM 3 30 [.int .i64 e.kind, Str e.nm, Str e.loc, .int .i64 e.ord, .slice e.A1 e.es.length e.c1, .slice e.A2 e.th.length e.c2, .slice e.A3 e.el.length e.c3] (fun b => .pointer (some ⟨b, 0, none⟩)) (by kernel_rfl) (by kernel_rfl) fun b1 a w hK hM => ?_
 refine stepP hK 5 (.bool false) (by kernel_rfl) (by kernel_rfl) fun a hK => ?_
 refine region_done hK [(5, .bool false), (3, .pointer (some ⟨b1, 0, none⟩)), (0, .agg #[.int .i64 e.kind, Str e.nm, Str e.loc, .int .i64 e.ord, .slice e.A1 e.es.length e.c1, .slice e.A2 e.th.length e.c2, .slice e.A3 e.el.length e.c3]), (2, .pointer (some ⟨bn, 0, none⟩))] ⟨rfl, rfl, rfl, rfl, trivial⟩ fun a hK => ?_
 refine wp_seq ?_
 refine region_go (lst := [0, 1, 2, 3, 4]) (by kernel_rfl) ?_
 refine stepLoad hK 6 (.func (.func 55) #[] #[.pointer (some ⟨bx, 0, none⟩)]) (by kernel_rfl) rfl rfl ((hM.row 1 rfl).cells 0 1) (by kernel_rfl) fun a hK => ?_
 refine stepP hK 7 (.pointer (some ⟨b1, 1, none⟩)) (by kernel_rfl) (by kernel_rfl) fun a hK => ?_
 refine stepLoad hK 8 (Str e.nm) (by kernel_rfl) rfl rfl ((hM.row 0 rfl).cells 1 1) (by kernel_rfl) fun a hK => ?_
 have hc2m : Mem w0 _ (.row bx 78 [.map (some bm)] :: .obj bm (setObjS ks) :: .row b1 30 [.int .i64 e.kind, Str e.nm, Str e.loc, .int .i64 e.ord, .slice e.A1 e.es.length e.c1, .slice e.A2 e.th.length e.c2, .slice e.A3 e.el.length e.c3] :: .row bn 66 [.func (.func 55) #[] #[.pointer (some ⟨bx, 0, none⟩)]] :: F) := (hM.order [[.row b1 30 [.int .i64 e.kind, Str e.nm, Str e.loc, .int .i64 e.ord, .slice e.A1 e.es.length e.c1, .slice e.A2 e.th.length e.c2, .slice e.A3 e.el.length e.c3]], [.row bn 66 [.func (.func 55) #[] #[.pointer (some ⟨bx, 0, none⟩)]]], [.row bx 78 [.map (some bm)]], [.obj bm (setObjS ks)], F] [2, 3, 0, 1, 4] 5 rfl (by simp) (by decide) ((.row bx 78 [.map (some bm)] :: .obj bm (setObjS ks) :: .row b1 30 [.int .i64 e.kind, Str e.nm, Str e.loc, .int .i64 e.ord, .slice e.A1 e.es.length e.c1, .slice e.A2 e.th.length e.c2, .slice e.A3 e.el.length e.c3] :: .row bn 66 [.func (.func 55) #[] #[.pointer (some ⟨bx, 0, none⟩)]] :: F)) (by simp))
 have hc2 := ast_note e.nm bx bm ks (.row b1 30 [.int .i64 e.kind, Str e.nm, Str e.loc, .int .i64 e.ord, .slice e.A1 e.es.length e.c1, .slice e.A2 e.th.length e.c2, .slice e.A3 e.el.length e.c3] :: .row bn 66 [.func (.func 55) #[] #[.pointer (some ⟨bx, 0, none⟩)]] :: F) _ _ hc2m
 refine stepCallIn hK 9 #[Str e.nm, .pointer (some ⟨bx, 0, none⟩)] (by kernel_rfl) (run_callE en_ast_Regs_1 rfl rfl (by kernel_rfl)) (hc2) ?_
 rintro k3 a w hR4 hK hM
 replace hM := hM.to (.row bx 78 [.map (some bm)] :: .obj bm (setObjS k3) :: .row b1 30 [.int .i64 e.kind, Str e.nm, Str e.loc, .int .i64 e.ord, .slice e.A1 e.es.length e.c1, .slice e.A2 e.th.length e.c2, .slice e.A3 e.el.length e.c3] :: .row bn 66 [.func (.func 55) #[] #[.pointer (some ⟨bx, 0, none⟩)]] :: F) (by kernel_rfl)
 refine stepM hK 5 9 (by kernel_rfl) (.inr rfl) rfl fun a hK => ?_
 refine region_done hK [(5, .bool true), (3, .pointer (some ⟨b1, 0, none⟩)), (0, .agg #[.int .i64 e.kind, Str e.nm, Str e.loc, .int .i64 e.ord, .slice e.A1 e.es.length e.c1, .slice e.A2 e.th.length e.c2, .slice e.A3 e.el.length e.c3]), (2, .pointer (some ⟨bn, 0, none⟩))] ⟨rfl, rfl, rfl, rfl, trivial⟩ fun a hK => ?_
 refine wp_ret ?_
 exact ret_t hK rfl (u := (.bool true)) rfl (⟨(true, k3), rfl, ((hM.order [[.row bx 78 [.map (some bm)]], [.obj bm (setObjS k3)], [.row b1 30 [.int .i64 e.kind, Str e.nm, Str e.loc, .int .i64 e.ord, .slice e.A1 e.es.length e.c1, .slice e.A2 e.th.length e.c2, .slice e.A3 e.el.length e.c3]], [.row bn 66 [.func (.func 55) #[] #[.pointer (some ⟨bx, 0, none⟩)]]], F] [2, 3, 0, 1, 4] 5 rfl (by simp) (by decide) ((.row b1 30 [.int .i64 e.kind, Str e.nm, Str e.loc, .int .i64 e.ord, .slice e.A1 e.es.length e.c1, .slice e.A2 e.th.length e.c2, .slice e.A3 e.el.length e.c3] :: .row bn 66 [.func (.func 55) #[] #[.pointer (some ⟨bx, 0, none⟩)]] :: .row bx 78 [.map (some bm)] :: .obj bm (setObjS k3) :: F)) (by simp)).drop 1), by unfold noteS; rw [hR4]⟩)
section
variable {σ : Type} {I : σ → Prop} {f : Ex → Nat → σ → Bool × σ} {g : Sm → Nat → σ → Bool × σ}
theorem andW_inv {r : Bool × σ} {k : σ → Bool × σ} (h : I r.2) (hk : ∀ s, I s → I (k s).2) : I (andW r k).2 := by
 unfold andW
 split
 ·exact hk _ h
 ·exact h
theorem ex_inv (hf : ∀ e d s, e.sh = true → I s → I (f e d s).2) (e : Ex) : ∀ d s, e.sh = true → I s → I (e.wk f d s).2 := by
 induction e using Ex.rec_on with
 | h e ih =>
  intro d s hs h
  rw [ex_wk]
  refine andW_inv (hf _ _ _ hs h) fun s h => ?_
  have key : ∀ (l : List Ex) (d : Nat) (s : σ), (∀ x ∈ l, ∀ d s, x.sh = true → I s → I (x.wk f d s).2) → exsSh l = true → I s → I (exsWk f l d s).2 := by
   intro l
   induction l with
   | nil => intro d s _ _ h; rw [exsWk]; exact h
   | cons x r ih2 =>
    intro d s hx hs h
    rw [exsWk]
    rw [exsSh, Bool.and_eq_true] at hs
    exact andW_inv (hx x List.mem_cons_self d s hs.1 h) fun s h => ih2 d s (fun y hy => hx y (List.mem_cons_of_mem _ hy)) hs.2 h
  exact key e.ks _ s ih (ex_sh hs).2 h
theorem exs_inv (hf : ∀ e d s, e.sh = true → I s → I (f e d s).2) (l : List Ex) (d : Nat) (s : σ) (hs : exsSh l = true) (h : I s) : I (exsWk f l d s).2 := by
 induction l generalizing s with
 | nil => rw [exsWk]; exact h
 | cons x r ih =>
  rw [exsWk]
  rw [exsSh, Bool.and_eq_true] at hs
  exact andW_inv (ex_inv hf x d s hs.1 h) fun s h => ih s hs.2 h
theorem sms_inv (hf : ∀ e d s, e.sh = true → I s → I (f e d s).2) (hg : ∀ e d s, e.sh = true → I s → I (g e d s).2) (l : List Sm) : ∀ d s, smsSh l = true → I s → I (smsWk f g l d s).2 := by
 induction l using sms_rec with
 | h l ih =>
  induction l with
  | nil => intro d s _ h; rw [smsWk]; exact h
  | cons y r ih2 =>
   intro d s hs h
   rw [smsSh, Bool.and_eq_true] at hs
   obtain ⟨h1, h2⟩ := ih y List.mem_cons_self
   obtain ⟨_, _, h3, h4, h5⟩ := sm_sh hs.1
   rw [smsWk]
   refine andW_inv ?_ fun s h => ih2 (fun s hs => ih s (List.mem_cons_of_mem _ hs)) d s hs.2 h
   rw [sm_wk]
   refine andW_inv (hg _ _ _ hs.1 h) fun s h => ?_
   refine andW_inv ?_ fun s h => h2 _ s h5 h
   unfold walkW
   exact andW_inv (exs_inv hf _ _ _ h3 h) fun s h => h1 _ s h4 h
end
/-- The names of registers in statements, each once. -/
def regsL (l : List Sm) : List (List UInt8) := (walkW noteE noteS [] l 1 []).2
theorem regs_ok (l : List Sm) (hs : smsSh l = true) : ∀ s ∈ regsL l, s.length ≤ 65536 := by
 have hn : ∀ (s : List UInt8) (ks : List (List UInt8)), s.length ≤ 65536 → (∀ x ∈ ks, x.length ≤ 65536) → ∀ x ∈ noteL s ks, x.length ≤ 65536 := by
  intro s ks h1 h2 x hx
  unfold noteL at hx
  split at hx
  ·exact h2 x hx
  ·split at hx
   ·exact h2 x hx
   ·rcases List.mem_append.1 hx with h | h
    ·exact h2 x h
    ·rw [List.mem_singleton.1 h]; exact h1
 unfold regsL
 rw [walkW_s]
 refine sms_inv (I := fun ks : List (List UInt8) => ∀ s ∈ ks, s.length ≤ 65536) (fun e d ks he h => ?_) (fun e d ks he h => hn _ _ (sm_sh he).1 h) l 1 [] hs (fun s hs => by cases hs)
 unfold noteE
 show ∀ s ∈ (if e.op = 2 then noteL e.nm ks else ks), _
 split
 ·exact hn _ _ (ex_sh he).1 h
 ·exact h
set_option maxRecDepth 100000 in
set_option maxHeartbeats 4000000 in
theorem lib_Keys (bm : Nat) (w0 : World) : Calls Tryd.prog 60 #[.map (some bm)] w0 (Gives w0 (fun b : Nat => .func (.func 82) #[] #[.pointer (some ⟨b, 0, none⟩)]) (fun b => [.row b 78 [.map (some bm)]]) fun _ => True) := by
 refine calls_K (args := [.map (some bm)]) (n := 4) (env := [(0, .map (some bm))]) Tryd.func60 rfl rfl rfl ⟨rfl, trivial⟩ fun a w hK hM => ?_
 refine wp_seq ?_
 refine region_go (lst := [0, 1]) (by kernel_rfl) ?_
 refine stepAlloc hK hM 1 78 [.map (some bm)] (fun b => .pointer (some ⟨b, 0, none⟩)) (by kernel_rfl) (by kernel_rfl) fun b1 a w hK hM => ?_
 refine stepP hK 2 (.nilFunc) (by kernel_rfl) (by kernel_rfl) fun a hK => ?_
 refine region_done hK [(2, .nilFunc), (1, .pointer (some ⟨b1, 0, none⟩)), (0, .map (some bm))] ⟨rfl, rfl, rfl, trivial⟩ fun a hK => ?_
 refine wp_seq ?_
 refine region_go (lst := [0, 1]) (by kernel_rfl) ?_
 refine stepP hK 3 (.func (.func 82) #[] #[.pointer (some ⟨b1, 0, none⟩)]) (by kernel_rfl) (by kernel_rfl) fun a hK => ?_
 refine stepM hK 2 3 (by kernel_rfl) (.inr rfl) rfl fun a hK => ?_
 refine region_done hK [(2, .func (.func 82) #[] #[.pointer (some ⟨b1, 0, none⟩)]), (1, .pointer (some ⟨b1, 0, none⟩)), (0, .map (some bm))] ⟨rfl, rfl, rfl, trivial⟩ fun a hK => ?_
 refine wp_ret ?_
 exact ret_t hK rfl (u := (.func (.func 82) #[] #[.pointer (some ⟨b1, 0, none⟩)])) rfl (⟨b1, rfl, hM, trivial⟩)
theorem true_of {σ : Type} {f : Ex → Nat → σ → Bool × σ} {g : Sm → Nat → σ → Bool × σ} (hf : ∀ e d s, (f e d s).1 = true) (hg : ∀ e d s, (g e d s).1 = true) : (∀ (l : List Ex) (d : Nat) (s : σ), (exsWk f l d s).1 = true) ∧ ∀ (l : List Sm) (d : Nat) (s : σ), (smsWk f g l d s).1 = true := by
 have ht : ∀ {r : Bool × σ} {k : σ → Bool × σ}, r.1 = true → (∀ s, (k s).1 = true) → (andW r k).1 = true := by
  intro r k h1 h2
  unfold andW; rw [if_pos h1]; exact h2 _
 have he : ∀ (e : Ex) (d : Nat) (s : σ), (e.wk f d s).1 = true := by
  intro e
  induction e using Ex.rec_on with
  | h e ih =>
   intro d s
   rw [ex_wk]
   refine ht (hf _ _ _) fun s => ?_
   have : ∀ (l : List Ex) (d : Nat) (s : σ), (∀ x ∈ l, ∀ d s, (x.wk f d s).1 = true) → (exsWk f l d s).1 = true := by
    intro l
    induction l with
    | nil => intro d s _; rw [exsWk]
    | cons x r ih2 => intro d s h; rw [exsWk]; exact ht (h x List.mem_cons_self _ _) fun s => ih2 d s fun y hy => h y (List.mem_cons_of_mem _ hy)
   exact this e.ks _ s ih
 have hes : ∀ (l : List Ex) (d : Nat) (s : σ), (exsWk f l d s).1 = true := by
  intro l
  induction l with
  | nil => intro d s; rw [exsWk]
  | cons x r ih => intro d s; rw [exsWk]; exact ht (he x _ _) fun s => ih d s
 refine ⟨hes, fun l => ?_⟩
 induction l using sms_rec with
 | h l ih =>
  induction l with
  | nil => intro d s; rw [smsWk]
  | cons y r ih2 =>
   intro d s
   obtain ⟨h1, h2⟩ := ih y List.mem_cons_self
   rw [smsWk, sm_wk]
   refine ht (ht (hg _ _ _) fun s => ht ?_ fun s => h2 _ s) fun s => ih2 (fun s hs => ih s (List.mem_cons_of_mem _ hs)) d s
   unfold walkW
   exact ht (hes _ _ _) fun s => h1 _ s
theorem true_note (l : List Sm) (d : Nat) (ks : List (List UInt8)) : (smsWk noteE noteS l d ks).1 = true := (true_of (fun _ _ _ => rfl) fun _ _ _ => rfl).2 l d ks
set_option maxRecDepth 100000 in
set_option maxHeartbeats 4000000 in
theorem ast_Regs {A : Option Addr} {c : Nat} (l : List Sm) (w0 : World) (hl : SmsAt w0 A l) (hsz : smsSz l ≤ 100000) (hsh : smsSh l = true) : Calls Tryd.prog 25 #[.slice A l.length c] w0 (Gives w0 (fun v : Value => v) (fun v => [.own 9 1 v ((regsL l).mergeSort Go.leB).length (((regsL l).mergeSort Go.leB).map Str)]) fun _ => True) := by
 refine calls_K (args := [.slice A l.length c]) (n := 15) (env := [(0, .slice A l.length c)]) Tryd.func25 rfl rfl rfl ⟨rfl, trivial⟩ fun a w hK hM => ?_
 refine wp_seq ?_
 refine region_go (lst := [0]) (by kernel_rfl) ?_
 refine stepP hK 2 (.slice none 0 0) (by kernel_rfl) (by kernel_rfl) fun a hK => ?_
 refine region_done hK [(2, .slice none 0 0), (0, .slice A l.length c)] ⟨rfl, rfl, trivial⟩ fun a hK => ?_
 refine wp_seq ?_
 refine region_go (lst := [0, 1, 2]) (by kernel_rfl) ?_
 refine stepObj hK hM 5 (.map #[] 0) (fun b => .map (some b)) (by kernel_rfl) (by kernel_rfl) fun b1 a w hK hM => ?_
 refine stepAlloc hK hM 3 78 [.map none] (fun b => .pointer (some ⟨b, 0, none⟩)) (by kernel_rfl) (by kernel_rfl) fun b2 a w hK hM => ?_
 refine stepStore hK hM 0 [.map (some b1)] (by kernel_rfl) rfl rfl rfl rfl (by kernel_rfl) fun w hM => ?_
 replace hM := hM.to [.row b2 78 [.map (some b1)], .obj b1 (.map #[] 0)] (by kernel_rfl)
 refine region_done hK [(3, .pointer (some ⟨b2, 0, none⟩)), (2, .slice none 0 0), (0, .slice A l.length c)] ⟨rfl, rfl, rfl, trivial⟩ fun a hK => ?_
 refine wp_seq ?_
 refine region_go (lst := [0, 1, 2]) (by kernel_rfl) ?_
 refine stepP hK 6 (.func (.func 55) #[] #[.pointer (some ⟨b2, 0, none⟩)]) (by kernel_rfl) (by kernel_rfl) fun a hK => ?_
 refine stepAlloc hK hM 4 66 [.nilFunc] (fun b => .pointer (some ⟨b, 0, none⟩)) (by kernel_rfl) (by kernel_rfl) fun b3 a w hK hM => ?_
 refine stepStore hK hM 0 [.func (.func 55) #[] #[.pointer (some ⟨b2, 0, none⟩)]] (by kernel_rfl) rfl rfl rfl rfl (by kernel_rfl) fun w hM => ?_
 replace hM := hM.to [.row b3 66 [.func (.func 55) #[] #[.pointer (some ⟨b2, 0, none⟩)]], .row b2 78 [.map (some b1)], .obj b1 (.map #[] 0)] (by kernel_rfl)
 refine region_done hK [(4, .pointer (some ⟨b3, 0, none⟩)), (3, .pointer (some ⟨b2, 0, none⟩)), (2, .slice none 0 0), (0, .slice A l.length c)] ⟨rfl, rfl, rfl, rfl, trivial⟩ fun a hK => ?_
 refine wp_seq ?_
 refine region_go (lst := [0, 1, 2, 3]) (by kernel_rfl) ?_
 refine stepM hK 7 0 (by kernel_rfl) (.inl rfl) rfl fun a hK => ?_
 refine stepP hK 8 (.func (.func 56) #[] #[.pointer (some ⟨b3, 0, none⟩)]) (by kernel_rfl) (by kernel_rfl) fun a hK => ?_
 refine stepP hK 9 (.func (.func 57) #[] #[.pointer (some ⟨b3, 0, none⟩)]) (by kernel_rfl) (by kernel_rfl) fun a hK => ?_
 have hc4m : Mem w0 _ [.row b3 66 [.func (.func 55) #[] #[.pointer (some ⟨b2, 0, none⟩)]], .row b2 78 [.map (some b1)], .obj b1 (.map #[] 0)] := hM
 have hc4 := ast_walk (step_rE _ b3 b2 b1) (step_rS _ b3 b2 b1) [] l none 0 A c 1 0 [] [] _ (by simp only [exsSz]; omega) (fun s F w h => ⟨fun k x hx => by simp at hx, hl.on h.below⟩) rfl hsh (hc4m.to _ (by rfl)) ⟨by simp only [exsSz, List.length_nil]; omega, List.nodup_nil⟩
 refine stepCallIn hK 10 #[.slice none 0 0, .slice A l.length c, .int .i64 1, .func (.func 56) #[] #[.pointer (some ⟨b3, 0, none⟩)], .func (.func 57) #[] #[.pointer (some ⟨b3, 0, none⟩)]] (by kernel_rfl) (run_callE en_ast_walk rfl rfl (by kernel_rfl)) (hc4) ?_
 rintro ⟨r5, q6⟩ a w ⟨hR7, hKo⟩ hK hM
 replace hM := hM.to [.row b3 66 [.func (.func 55) #[] #[.pointer (some ⟨b2, 0, none⟩)]], .row b2 78 [.map (some b1)], .obj b1 (setObjS q6)] (by kernel_rfl)
 have hKok : q6.Nodup ∧ q6.length ≤ 1000000 := by have h8 := (hKo (by rw [congrArg Prod.fst hR7, walkW_s]; exact true_note l 1 [])); exact ⟨h8.2, by have := h8.1; omega⟩
 refine region_done hK [(4, .pointer (some ⟨b3, 0, none⟩)), (3, .pointer (some ⟨b2, 0, none⟩)), (2, .slice none 0 0), (0, .slice A l.length c)] ⟨rfl, rfl, rfl, rfl, trivial⟩ fun a hK => ?_
 refine wp_seq ?_
 refine region_go (lst := [0, 1, 2, 3, 4]) (by kernel_rfl) ?_
 refine stepLoad hK 11 (.map (some b1)) (by kernel_rfl) rfl rfl ((hM.row 1 rfl).cells 0 1) (by kernel_rfl) fun a hK => ?_
 refine stepCall hK hM 12 #[.map (some b1)] (by kernel_rfl) (run_callE en_mKeys rfl rfl (by kernel_rfl)) (lib_Keys b1 _) ?_
 rintro b9 a w - hK hM
 have hks : q6 = regsL l := congrArg Prod.snd hR7
 have hkn : q6.Nodup ∧ q6.length ≤ 1000000 := hKok
 have hkl : ∀ s ∈ q6, s.length ≤ 65536 := by rw [hks]; exact regs_ok l hsh
 refine stepCall hK hM 13 #[.func (.func 82) #[] #[.pointer (some ⟨b9, 0, none⟩)]] (by kernel_rfl) (run_callE en_sSorted rfl rfl (by kernel_rfl)) (ast_Sorted b9 b1 q6 _ (hM.row 0 rfl) (hM.obj 3 rfl) hkn.1 hkn.2 hkl) ?_
 rintro v11 a w - hK hM
 obtain ⟨A9, c9, rfl, -, hH9, hnil9⟩ := own_hand (hM.own 0 rfl)
 refine stepCall hK hM 14 #[.slice A9 (q6.mergeSort leB).length c9, .func (.func 61) #[] #[]] (by kernel_rfl) (run_callE en_eachS rfl rfl (by kernel_rfl)) (ast_eachS (q6.mergeSort leB) _ hH9 (by rw [List.length_mergeSort]; exact hkn.2) (fun x hx => hkl x (List.mem_mergeSort.1 hx)) hnil9) ?_
 rintro v13 a w - hK hM
 refine stepM hK 2 14 (by kernel_rfl) (.inr rfl) rfl fun a hK => ?_
 refine region_done hK [(2, v13), (4, .pointer (some ⟨b3, 0, none⟩)), (3, .pointer (some ⟨b2, 0, none⟩)), (0, .slice A l.length c)] ⟨rfl, rfl, rfl, rfl, trivial⟩ fun a hK => ?_
 refine wp_ret ?_
 exact ret_t hK rfl (u := v13) rfl (⟨v13, rfl, (hM.pick 0 rfl).to _ (by rw [hks]), trivial⟩)
end Go.Proofs.YtmfiiapmkidmkaaDoor
