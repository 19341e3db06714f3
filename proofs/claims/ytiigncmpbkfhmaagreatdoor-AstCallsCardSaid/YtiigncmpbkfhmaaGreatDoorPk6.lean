/-
  What AstCallsCard stands on, part 6.
-/
import Derived.Test.YtiigncmpbkfhmaaGreatDoorPk5
namespace Go.Proofs.YtiigncmpbkfhmaaGreatDoor
open Go Go.RowKit
theorem en_ast_copyStmt : Enters Tryz.prog 65 := enters_of Tryz.func65 (by kernel_rfl) rfl
theorem en_ast_copyStmts : Enters Tryz.prog 34 := enters_of Tryz.func34 (by kernel_rfl) rfl
theorem en_each_Stmt : Enters Tryz.prog 64 := enters_of Tryz.func64 (by kernel_rfl) rfl
def GivesS (w0 : World) (s : Sm) : Ending → World → Prop := Gives w0 (fun x : Sm × List It => (.agg #[.int .i64 x.1.kind, Str x.1.nm, Str x.1.loc, .int .i64 x.1.ord, .slice x.1.A1 x.1.es.length x.1.c1, .slice x.1.A2 x.1.th.length x.1.c2, .slice x.1.A3 x.1.el.length x.1.c3] : Value)) (fun x => x.2) fun x => x.1.same s = true ∧ SmRows x.2 x.1
def GivesSs (w0 : World) (l : List Sm) : Ending → World → Prop := Gives w0 (fun x : List Sm × Option Addr × Nat × List It => (.slice x.2.1 x.1.length x.2.2.1 : Value)) (fun x => x.2.2.2) fun x => smsEq x.1 l = true ∧ RowIn x.2.2.2 64 x.2.1 (x.1.flatMap cS) ∧ ∀ y ∈ x.1, SmRows x.2.2.2 y
def samePtsS (done l : List Sm) : Prop := ∀ (k : Nat) (u v : Sm), done[k]? = some u → l[k]? = some v → u.same v = true
theorem samePtsS_all : ∀ {done l : List Sm}, samePtsS done l → smsSame done l = true := by
 intro done
 induction done with
 | nil => intro l _; cases l <;> rw [smsSame] <;> simp
 | cons x r ih =>
  intro l h
  cases l with
  | nil => rw [smsSame]; simp
  | cons y s => rw [smsSame, h 0 x y rfl rfl, ih (fun k u v hu hv => h (k + 1) u v (by simpa using hu) (by simpa using hv))]; rfl
theorem sms_none {w : World} {A : Option Addr} {l : List Sm} (h : SmsAt w A l) (hA : A.isNone = true) : l = [] := by
 cases l with
 | nil => rfl
 | cons x r => obtain ⟨⟨a, e, _⟩, _⟩ := h 0 x rfl; rw [e] at hA; simp at hA
theorem same_snocS {l done : List Sm} {i : Nat} {e q : Sm} (h : samePtsS done l) (hi : done.length = i) (hq : l[i]? = some q) (hs : e.same q = true) : samePtsS (done ++ [e]) l := by
 intro k x y hx hy
 rcases Nat.lt_or_ge k done.length with hk | hk
 ·rw [List.getElem?_append_left hk] at hx; exact h k x y hx hy
 ·rw [List.getElem?_append_right hk] at hx
  have hk2 : k = i := by
   have := (List.getElem?_eq_some_iff.1 hx).1
   simp at this; omega
  subst hk2
  rw [hi, Nat.sub_self] at hx
  obtain rfl : e = x := by simpa using hx
  rw [hq] at hy
  obtain rfl := Option.some.inj hy
  exact hs
set_option maxRecDepth 100000 in
set_option maxHeartbeats 4000000 in
theorem ast_eachSm (l : List Sm) (ih : ∀ x ∈ l, ∀ w0 : World, SmAt w0 x → Calls Tryz.prog 65 #[vS x] w0 (GivesS w0 x)) : ∀ (A : Option Addr) (c : Nat) (w0 : World), SmsAt w0 A l → l.length ≤ 1000000 → Calls Tryz.prog 64 #[.slice A l.length c, .func (.func 65) #[] #[]] w0 (GivesSs w0 l) := by
 intro A c w0 hl hln
 refine calls_K (args := [.slice A l.length c, .func (.func 65) #[] #[]]) (n := 28) (env := [(0, .slice A l.length c), (1, .func (.func 65) #[] #[])]) Tryz.func64 rfl rfl rfl ⟨rfl, rfl, trivial⟩ fun a w hK hM => ?_
 refine wp_seq ?_
 refine rg1 (by kernel_rfl) ?_
 refine sP hK 4 (.slice none 0 0) (by kernel_rfl) (by kernel_rfl) fun a hK => ?_
 refine rps ?_
 refine wp_seq ?_
 refine wp_seq ?_
 refine rg2 (by kernel_rfl) ?_
 refine sM hK 8 0 (by kernel_rfl) (.inl rfl) rfl fun a hK => ?_
 rcases Bool.eq_false_or_eq_true (A).isNone with h1 | h1
 ·refine sP hK 9 (.bool true) (by kernel_rfl) (oB (b := (A).isNone) (run_eqNil rfl rfl rfl Tryz.underlying38) h1) fun a hK => ?_
  refine rps ?_
  refine wp_cond_true (hK.get rfl) ?_
  refine wp_seq ?_
  refine rg1 (by kernel_rfl) ?_
  refine sP hK 4 (.slice none 0 0) (by kernel_rfl) (by kernel_rfl) fun a hK => ?_
  refine rps ?_
  refine wp_ret ?_
  exact ret_t hK rfl (u := (.slice none 0 0)) rfl (⟨([], none, 0, []), rfl, hM, by rw [sms_none hl h1]; rfl, .inl rfl, fun y hy => by cases hy⟩)
 ·refine sP hK 9 (.bool false) (by kernel_rfl) (oB (b := (A).isNone) (run_eqNil rfl rfl rfl Tryz.underlying38) h1) fun a hK => ?_
  refine rps ?_
  refine wp_cond_false (hK.get rfl) ?_
  refine wp_skip ?_
  refine wp_seq ?_
  refine rg4 (by kernel_rfl) ?_
  refine sM hK 10 0 (by kernel_rfl) (.inl rfl) rfl fun a hK => ?_
  refine sP hK 11 (.int .i64 ((l.length : Nat) : Int)) (by kernel_rfl) (by kernel_rfl) fun a hK => ?_
  refine stepMake hK hM 12 [.int .i64 0, Str [], Str [], .int .i64 0, .slice none 0 0, .slice none 0 0, .slice none 0 0] l.length 120 Tryz.underlying38 (by kernel_rfl) (by kernel_rfl) rfl rfl rfl (by omega) fun b2 a w hK hM => ?_
  refine sM hK 5 12 (by kernel_rfl) (.inr rfl) rfl fun a hK => ?_
  refine rps ?_
  refine wp_seq ?_
  refine wp_seq ?_
  refine rg3 (by kernel_rfl) ?_
  refine sM hK 13 0 (by kernel_rfl) (.inl rfl) rfl fun a hK => ?_
  refine sP hK 14 (.int .i64 ((l.length : Nat) : Int)) (by kernel_rfl) (by kernel_rfl) fun a hK => ?_
  refine sP hK 15 (.int .i64 0) (by kernel_rfl) (by kernel_rfl) fun a hK => ?_
  refine rps ?_
  refine wp_block ?_
  refine wLX (fun x : Nat × (List Sm) × (List It) => [(14, .int .i64 ((l.length : Nat) : Int)), (13, .slice A l.length c), (5, .slice (some ⟨b2, 0, none⟩) l.length l.length), (9, .bool false), (4, .slice none 0 0), (0, .slice A l.length c), (1, .func (.func 65) #[] #[]), (15, .int .i64 ((x.1 : Nat) : Int))]) (fun x : Nat × (List Sm) × (List It) => (.row b2 64 (x.2.1.flatMap cS ++ zerosL (l.length - x.1) [.int .i64 0, Str [], Str [], .int .i64 0, .slice none 0 0, .slice none 0 0, .slice none 0 0]) :: x.2.2)) (fun x : Nat × (List Sm) × (List It) => x.1 ≤ l.length ∧ x.2.1.length = x.1 ∧ samePtsS x.2.1 l ∧ ∀ u ∈ x.2.1, SmRows x.2.2 u) (fun x : Nat × (List Sm) × (List It) => l.length - x.1) (0, [], []) (hK.sub ⟨rfl, rfl, rfl, rfl, rfl, rfl, rfl, rfl, trivial⟩) hM ⟨Nat.zero_le _, rfl, fun k x y hx => by simp at hx, fun x hx => by simp at hx⟩ ?_
  rintro ⟨i, done, F⟩ a w hK hM hR
  replace hK : Knows a 28 [(14, .int .i64 ((l.length : Nat) : Int)), (13, .slice A l.length c), (5, .slice (some ⟨b2, 0, none⟩) l.length l.length), (9, .bool false), (4, .slice none 0 0), (0, .slice A l.length c), (1, .func (.func 65) #[] #[]), (15, vN i)] := hK
  replace hM : Mem w0 w (.row b2 64 (done.flatMap cS ++ zerosL (l.length - i) [.int .i64 0, Str [], Str [], .int .i64 0, .slice none 0 0, .slice none 0 0, .slice none 0 0]) :: F) := hM
  replace hR : i ≤ l.length ∧ done.length = i ∧ samePtsS done l ∧ ∀ u ∈ done, SmRows F u := hR
  refine wp_seq ?_
  refine rg1 (by kernel_rfl) ?_
  by_cases h3 : (((i : Nat) : Int) : Int) < ((l.length : Nat) : Int)
  ·refine sP hK 16 (.bool true) (by kernel_rfl) (oB (b := (decide ((((i : Nat) : Int) : Int) < ((l.length : Nat) : Int)))) (by kernel_rfl) (decide_eq_true h3)) fun a hK => ?_
   refine rps ?_
   refine wp_seq ?_
   refine wp_cond_true (hK.get rfl) ?_
   refine wp_skip ?_
   refine wp_seq ?_
   refine wp_block ?_
   refine wp_seq ?_
   refine rg6 (by kernel_rfl) ?_
   refine sM hK 17 15 (by kernel_rfl) (.inl rfl) rfl fun a hK => ?_
   obtain ⟨t4, ht4⟩ : ∃ t, l[(i : Nat)]? = some t := ⟨_, List.getElem?_eq_getElem (by omega)⟩
   obtain ⟨⟨at4, At4, ct4⟩, et4⟩ := hl _ _ ht4; have nt4 := et4.len
   refine sP hK 18 (.pointer (some (at4.add (i * 7)))) (by kernel_rfl) (rX (k := i) (s := 7) rfl rfl At4 rfl Tryz.underlying38 (by kernel_rfl) (by omega)) fun a hK => ?_
   refine sL hK 19 (vS t4) (by kernel_rfl) rfl rfl ((ct4.on hM.below)) (by kernel_rfl) fun a hK => ?_
   refine sA hK hM 7 64 [.int .i64 0, Str [], Str [], .int .i64 0, .slice none 0 0, .slice none 0 0, .slice none 0 0] (fun b => pA b 0) (by kernel_rfl) (by kernel_rfl) fun b5 a w hK hM => ?_
   refine sM hK 6 17 (by kernel_rfl) (.inr rfl) rfl fun a hK => ?_
   refine sS hK hM 0 (cS t4) (by kernel_rfl) rfl rfl rfl rfl (by kernel_rfl) fun w hM => ?_
   replace hM := hM.to (.row b5 64 (cS t4) :: .row b2 64 (done.flatMap cS ++ zerosL (l.length - i) [.int .i64 0, Str [], Str [], .int .i64 0, .slice none 0 0, .slice none 0 0, .slice none 0 0]) :: F) (by kernel_rfl)
   refine rps ?_
   refine rg7 (by kernel_rfl) ?_
   refine sM hK 20 5 (by kernel_rfl) (.inl rfl) rfl fun a hK => ?_
   refine sM hK 21 6 (by kernel_rfl) (.inl rfl) rfl fun a hK => ?_
   refine sM hK 22 1 (by kernel_rfl) (.inl rfl) rfl fun a hK => ?_
   refine sL hK 23 (vS t4) (by kernel_rfl) rfl rfl ((hM.row 0 rfl).cells 0 7) (by kernel_rfl) fun a hK => ?_
   refine sC hK hM 24 #[vS t4] (by kernel_rfl) (rC en_ast_copyStmt rfl rfl (by kernel_rfl)) (ih t4 (List.mem_of_getElem? ht4) _ (et4.on hM.below)) ?_
   rintro ⟨e6, G6⟩ a w ⟨hs6, hr6⟩ hK hM
   replace hM := (Mem.comm hM).to ((.row b5 64 (cS t4) :: .row b2 64 (done.flatMap cS ++ zerosL (l.length - i) [.int .i64 0, Str [], Str [], .int .i64 0, .slice none 0 0, .slice none 0 0, .slice none 0 0]) :: (F ++ G6))) (by kernel_rfl)
   refine sP hK 25 (.pointer (some ⟨b2, i * 7, none⟩)) (by kernel_rfl) (run_ixG (k := i) (s := 7) rfl rfl rfl Tryz.underlying38 (by kernel_rfl) (by omega)) fun a hK => ?_
   refine stepStoreAt hK hM 1 (cS e6) (((done ++ [e6]).flatMap cS ++ zerosL (l.length - (i + 1)) [.int .i64 0, Str [], Str [], .int .i64 0, .slice none 0 0, .slice none 0 0, .slice none 0 0])) (by kernel_rfl) rfl rfl rfl rfl (by kernel_rfl) rfl rfl (by rw [List.length_append, flat_len (s := 7) (fun _ => rfl), zerosL_length, hR.2.1]; simp only [List.length_cons, List.length_nil]; omega) ((put_next (A := done.flatMap cS) (new := cS e6) (zs := [.int .i64 0, Str [], Str [], .int .i64 0, .slice none 0 0, .slice none 0 0, .slice none 0 0]) (m := l.length - i) (k := i * 7) (by rw [flat_len (s := 7) (fun _ => rfl), hR.2.1]) rfl (by omega)).trans (by rw [List.flatMap_append]; simp [Nat.sub_sub])) fun w hM => ?_
   replace hM := hM.to ((.row b5 64 (cS t4) :: .row b2 64 (((done ++ [e6]).flatMap cS ++ zerosL (l.length - (i + 1)) [.int .i64 0, Str [], Str [], .int .i64 0, .slice none 0 0, .slice none 0 0, .slice none 0 0])) :: (F ++ G6))) (by kernel_rfl)
   refine rps ?_
   refine rg2 (by kernel_rfl) ?_
   refine sP hK 26 (.int .i64 (((i + 1) : Nat) : Int)) (by kernel_rfl) (run_addN (i := i) (j := 1) rfl rfl rfl (by omega)) fun a hK => ?_
   refine sM hK 15 26 (by kernel_rfl) (.inl rfl) rfl fun a hK => ?_
   refine rps ?_
   have hRn : (i + 1) ≤ l.length ∧ ((done ++ [e6])).length = (i + 1) ∧ samePtsS ((done ++ [e6])) l ∧ ∀ u ∈ ((done ++ [e6])), SmRows ((F ++ G6)) u := ⟨by omega, by simp [hR.2.1], same_snocS hR.2.2.1 hR.2.1 ht4 hs6, fun x hx => (List.mem_append.1 hx).elim (fun h => (hR.2.2.2 x h).mono fun it hi => List.mem_append_left _ hi) fun h => by obtain rfl := List.mem_singleton.1 h; exact hr6.mono fun it hi => List.mem_append_right _ hi⟩
   have hmn : l.length - (i + 1) < l.length - i := by omega
   exact ⟨(i + 1, (done ++ [e6]), (F ++ G6)), hK.sub ⟨rfl, rfl, rfl, rfl, rfl, rfl, rfl, rfl, trivial⟩, (hM.drop 1), hRn, hmn⟩
  ·refine sP hK 16 (.bool false) (by kernel_rfl) (oB (b := (decide ((((i : Nat) : Int) : Int) < ((l.length : Nat) : Int)))) (by kernel_rfl) (decide_eq_false h3)) fun a hK => ?_
   refine rps ?_
   refine wp_seq ?_
   refine wp_cond_false (hK.get rfl) ?_
   refine wp_exit (exit_then (exit_then (exit_here 0 ?_)))
   refine wp_seq ?_
   refine rg2 (by kernel_rfl) ?_
   refine sM hK 27 5 (by kernel_rfl) (.inl rfl) rfl fun a hK => ?_
   refine sM hK 4 27 (by kernel_rfl) (.inr rfl) rfl fun a hK => ?_
   refine rps ?_
   refine wp_ret ?_
   exact ret_t hK rfl (u := (.slice (some ⟨b2, 0, none⟩) l.length l.length)) rfl (⟨(done, some ⟨b2, 0, none⟩, l.length, .row b2 64 (done.flatMap cS) :: F), by show Ending.returned (Value.slice _ l.length l.length) = Ending.returned (Value.slice _ done.length l.length); rw [show done.length = l.length by omega], hM.to _ (by rw [Nat.sub_eq_zero_of_le (by omega)]; simp [zerosL]), by unfold smsEq neI; rw [show done.length = l.length by omega, samePtsS_all hR.2.2.1]; simp, .inr ⟨b2, rfl, List.mem_cons_self⟩, fun y hy => (hR.2.2.2 y hy).mono fun it hi => List.mem_cons_of_mem _ hi⟩)
theorem smsEq_len {l m : List Sm} (h : smsEq l m = true) : l.length = m.length := by
 unfold smsEq neI at h
 simp only [Bool.not_not, Bool.and_eq_true, decide_eq_true_eq] at h
 omega
theorem same_mkS {s : Sm} {A1 A2 A3 : Option Addr} {c1 c2 c3 : Nat} {es : List Ex} {th el : List Sm} (h1 : exsEq es s.es = true) (h2 : smsEq th s.th = true) (h3 : smsEq el s.el = true) : (Sm.mk s.kind s.nm s.loc s.ord A1 c1 es A2 c2 th A3 c3 el).same s = true := by
 rw [same_sm]
 show (decide (s.kind = s.kind) && (decide (s.nm = s.nm) && (decide (s.loc = s.loc) && (decide (s.ord = s.ord) && (exsEq es s.es && (smsEq th s.th && smsEq el s.el)))))) = true
 rw [h1, h2, h3]; simp
theorem rows_mkS {s : Sm} {A1 A2 A3 : Option Addr} {c1 c2 c3 : Nat} {es : List Ex} {th el : List Sm} {F G1 G2 G3 : List It} (hn : s.nm.length ≤ 65536 ∧ s.loc.length ≤ 65536) (hk : s.es.length ≤ 1000000 ∧ s.th.length ≤ 1000000 ∧ s.el.length ≤ 1000000) (h1 : exsEq es s.es = true) (h2 : smsEq th s.th = true) (h3 : smsEq el s.el = true)
  (i1 : RowIn G1 28 A1 (es.flatMap cE)) (r1 : ∀ y ∈ es, ExRows G1 y) (i2 : RowIn G2 64 A2 (th.flatMap cS)) (r2 : ∀ y ∈ th, SmRows G2 y) (i3 : RowIn G3 64 A3 (el.flatMap cS)) (r3 : ∀ y ∈ el, SmRows G3 y)
  (m1 : ∀ it ∈ G1, it ∈ F) (m2 : ∀ it ∈ G2, it ∈ F) (m3 : ∀ it ∈ G3, it ∈ F) : SmRows F (.mk s.kind s.nm s.loc s.ord A1 c1 es A2 c2 th A3 c3 el) :=
 .mk _ ⟨by show s.nm.length ≤ _; omega, by show s.loc.length ≤ _; omega, by show es.length ≤ _; rw [exsEq_len h1]; omega, by show th.length ≤ _; rw [smsEq_len h2]; omega, by show el.length ≤ _; rw [smsEq_len h3]; omega⟩ (i1.mono m1) (fun y hy => (r1 y hy).mono m1) (i2.mono m2) (fun y hy => (r2 y hy).mono m2) (i3.mono m3) fun y hy => (r3 y hy).mono m3
set_option maxRecDepth 100000 in
set_option maxHeartbeats 4000000 in
theorem ast_copyStmt0 (s : Sm) (h1 : ∀ (A : Option Addr) (c : Nat) (w0 : World), SmsAt w0 A s.th → s.th.length ≤ 1000000 → Calls Tryz.prog 34 #[.slice A s.th.length c] w0 (GivesSs w0 s.th)) (h2 : ∀ (A : Option Addr) (c : Nat) (w0 : World), SmsAt w0 A s.el → s.el.length ≤ 1000000 → Calls Tryz.prog 34 #[.slice A s.el.length c] w0 (GivesSs w0 s.el)) : ∀ (w0 : World), SmAt w0 s → s.sh = true → exsSz s.es ≤ 1000000 → s.th.length ≤ 1000000 → s.el.length ≤ 1000000 → Calls Tryz.prog 65 #[vS s] w0 (GivesS w0 s) := by
 intro w0 hs hsh hsz hth hel
 have hssh := sm_sh hsh; have hln := exsSz_len s.es
 refine calls_K (args := [vS s]) (n := 24) (env := [(0, vS s)]) Tryz.func65 rfl rfl rfl ⟨rfl, trivial⟩ fun a w hK hM => ?_
 refine wp_seq ?_
 refine rg2 (by kernel_rfl) ?_
 refine sA hK hM 1 64 (cS s) (fun b => pA b 0) (by kernel_rfl) (by kernel_rfl) fun b1 a w hK hM => ?_
 refine sA hK hM 2 64 [.int .i64 0, Str [], Str [], .int .i64 0, .slice none 0 0, .slice none 0 0, .slice none 0 0] (fun b => pA b 0) (by kernel_rfl) (by kernel_rfl) fun b2 a w hK hM => ?_
 refine rps ?_
 refine wp_seq ?_
 refine wp_cut (fun a w => Knows a 24 [(2, pA b2 0), (1, pA b1 0), (0, vS s)] ∧ Mem w0 w [.row b2 64 [.int .i64 0, Str [], Str [], .int .i64 0, .slice none 0 0, .slice none 0 0, .slice none 0 0], .row b1 64 (cS s)]) ?_ ?_
 ·refine region_tree hM (by kernel_rfl) 10 (by kernel_rfl) #[false, false, false, false, false, false, false, false, false, false] (by kernel_rfl) ?_
  clear hM; intro w hM
  refine tP hK 0 3 (pA b1 1) (by kernel_rfl) (by kernel_rfl) (by kernel_rfl) (fun w => (by kernel_rfl)) #[true, false, false, false, false, false, false, false, false, false] (by kernel_rfl) fun a hK => ?_
  refine tP hK 3 6 (pA b1 2) (by kernel_rfl) (by kernel_rfl) (by kernel_rfl) (fun w => (by kernel_rfl)) #[true, false, false, true, false, false, false, false, false, false] (by kernel_rfl) fun a hK => ?_
  refine tM [1, 4] (by kernel_rfl) rfl ⟨?_, ?_, trivial⟩
  ·refine sL hK 4 (Str s.nm) (by kernel_rfl) rfl rfl ((hM.row 1 rfl).cells 1 1) (by kernel_rfl) fun a hK => ?_
   refine tX #[true, true, false, true, false, false, false, false, false, false] (by kernel_rfl) ?_
   refine tM [2, 4] (by kernel_rfl) rfl ⟨?_, ?_, trivial⟩
   ·refine sR hK hM 5 #[Str s.nm] (Str s.nm) (by kernel_rfl) (rC en_strings_Clone rfl rfl (by kernel_rfl)) (lib_Clone s.nm _ (by omega)) fun a w hK hM => ?_
    refine tX #[true, true, true, true, false, false, false, false, false, false] (by kernel_rfl) ?_
    refine tM [4] (by kernel_rfl) rfl ⟨?_, trivial⟩
    refine sL hK 7 (Str s.loc) (by kernel_rfl) rfl rfl ((hM.row 1 rfl).cells 2 1) (by kernel_rfl) fun a hK => ?_
    refine tX #[true, true, true, true, true, false, false, false, false, false] (by kernel_rfl) ?_
    refine tP hK 6 9 (pA b1 1) (by kernel_rfl) (by kernel_rfl) (by kernel_rfl) (fun w => (by kernel_rfl)) #[true, true, true, true, true, false, true, false, false, false] (by kernel_rfl) fun a hK => ?_
    refine tM [5] (by kernel_rfl) rfl ⟨?_, trivial⟩
    refine sR hK hM 8 #[Str s.loc] (Str s.loc) (by kernel_rfl) (rC en_strings_Clone rfl rfl (by kernel_rfl)) (lib_Clone s.loc _ (by omega)) fun a w hK hM => ?_
    refine tX #[true, true, true, true, true, true, true, false, false, false] (by kernel_rfl) ?_
    refine tM [7] (by kernel_rfl) rfl ⟨?_, trivial⟩
    refine sS hK hM 1 (cS s) (by kernel_rfl) rfl rfl rfl rfl (by kernel_rfl) fun w hM => ?_
    replace hM := hM.to [.row b2 64 [.int .i64 0, Str [], Str [], .int .i64 0, .slice none 0 0, .slice none 0 0, .slice none 0 0], .row b1 64 (cS s)] (by kernel_rfl)
    refine tX #[true, true, true, true, true, true, true, true, false, false] (by kernel_rfl) ?_
    refine tP hK 8 10 (pA b1 2) (by kernel_rfl) (by kernel_rfl) (by kernel_rfl) (fun w => (by kernel_rfl)) #[true, true, true, true, true, true, true, true, true, false] (by kernel_rfl) fun a hK => ?_
    refine tM [9] (by kernel_rfl) rfl ⟨?_, trivial⟩
    refine sS hK hM 1 (cS s) (by kernel_rfl) rfl rfl rfl rfl (by kernel_rfl) fun w hM => ?_
    replace hM := hM.to [.row b2 64 [.int .i64 0, Str [], Str [], .int .i64 0, .slice none 0 0, .slice none 0 0, .slice none 0 0], .row b1 64 (cS s)] (by kernel_rfl)
    refine tX #[true, true, true, true, true, true, true, true, true, true] (by kernel_rfl) ?_
    exact treeE (by kernel_rfl) ⟨hK.sub ⟨rfl, rfl, rfl, trivial⟩, hM⟩
   ·refine sL hK 7 (Str s.loc) (by kernel_rfl) rfl rfl ((hM.row 1 rfl).cells 2 1) (by kernel_rfl) fun a hK => ?_
    refine tX #[true, true, false, true, true, false, false, false, false, false] (by kernel_rfl) ?_
    refine tM [2] (by kernel_rfl) rfl ⟨?_, trivial⟩
    refine sR hK hM 5 #[Str s.nm] (Str s.nm) (by kernel_rfl) (rC en_strings_Clone rfl rfl (by kernel_rfl)) (lib_Clone s.nm _ (by omega)) fun a w hK hM => ?_
    refine tX #[true, true, true, true, true, false, false, false, false, false] (by kernel_rfl) ?_
    refine tP hK 6 9 (pA b1 1) (by kernel_rfl) (by kernel_rfl) (by kernel_rfl) (fun w => (by kernel_rfl)) #[true, true, true, true, true, false, true, false, false, false] (by kernel_rfl) fun a hK => ?_
    refine tM [5] (by kernel_rfl) rfl ⟨?_, trivial⟩
    refine sR hK hM 8 #[Str s.loc] (Str s.loc) (by kernel_rfl) (rC en_strings_Clone rfl rfl (by kernel_rfl)) (lib_Clone s.loc _ (by omega)) fun a w hK hM => ?_
    refine tX #[true, true, true, true, true, true, true, false, false, false] (by kernel_rfl) ?_
    refine tM [7] (by kernel_rfl) rfl ⟨?_, trivial⟩
    refine sS hK hM 1 (cS s) (by kernel_rfl) rfl rfl rfl rfl (by kernel_rfl) fun w hM => ?_
    replace hM := hM.to [.row b2 64 [.int .i64 0, Str [], Str [], .int .i64 0, .slice none 0 0, .slice none 0 0, .slice none 0 0], .row b1 64 (cS s)] (by kernel_rfl)
    refine tX #[true, true, true, true, true, true, true, true, false, false] (by kernel_rfl) ?_
    refine tP hK 8 10 (pA b1 2) (by kernel_rfl) (by kernel_rfl) (by kernel_rfl) (fun w => (by kernel_rfl)) #[true, true, true, true, true, true, true, true, true, false] (by kernel_rfl) fun a hK => ?_
    refine tM [9] (by kernel_rfl) rfl ⟨?_, trivial⟩
    refine sS hK hM 1 (cS s) (by kernel_rfl) rfl rfl rfl rfl (by kernel_rfl) fun w hM => ?_
    replace hM := hM.to [.row b2 64 [.int .i64 0, Str [], Str [], .int .i64 0, .slice none 0 0, .slice none 0 0, .slice none 0 0], .row b1 64 (cS s)] (by kernel_rfl)
    refine tX #[true, true, true, true, true, true, true, true, true, true] (by kernel_rfl) ?_
    exact treeE (by kernel_rfl) ⟨hK.sub ⟨rfl, rfl, rfl, trivial⟩, hM⟩
  ·refine sL hK 7 (Str s.loc) (by kernel_rfl) rfl rfl ((hM.row 1 rfl).cells 2 1) (by kernel_rfl) fun a hK => ?_
   refine tX #[true, false, false, true, true, false, false, false, false, false] (by kernel_rfl) ?_
   refine tM [1] (by kernel_rfl) rfl ⟨?_, trivial⟩
   refine sL hK 4 (Str s.nm) (by kernel_rfl) rfl rfl ((hM.row 1 rfl).cells 1 1) (by kernel_rfl) fun a hK => ?_
   refine tX #[true, true, false, true, true, false, false, false, false, false] (by kernel_rfl) ?_
   refine tM [2] (by kernel_rfl) rfl ⟨?_, trivial⟩
   refine sR hK hM 5 #[Str s.nm] (Str s.nm) (by kernel_rfl) (rC en_strings_Clone rfl rfl (by kernel_rfl)) (lib_Clone s.nm _ (by omega)) fun a w hK hM => ?_
   refine tX #[true, true, true, true, true, false, false, false, false, false] (by kernel_rfl) ?_
   refine tP hK 6 9 (pA b1 1) (by kernel_rfl) (by kernel_rfl) (by kernel_rfl) (fun w => (by kernel_rfl)) #[true, true, true, true, true, false, true, false, false, false] (by kernel_rfl) fun a hK => ?_
   refine tM [5] (by kernel_rfl) rfl ⟨?_, trivial⟩
   refine sR hK hM 8 #[Str s.loc] (Str s.loc) (by kernel_rfl) (rC en_strings_Clone rfl rfl (by kernel_rfl)) (lib_Clone s.loc _ (by omega)) fun a w hK hM => ?_
   refine tX #[true, true, true, true, true, true, true, false, false, false] (by kernel_rfl) ?_
   refine tM [7] (by kernel_rfl) rfl ⟨?_, trivial⟩
   refine sS hK hM 1 (cS s) (by kernel_rfl) rfl rfl rfl rfl (by kernel_rfl) fun w hM => ?_
   replace hM := hM.to [.row b2 64 [.int .i64 0, Str [], Str [], .int .i64 0, .slice none 0 0, .slice none 0 0, .slice none 0 0], .row b1 64 (cS s)] (by kernel_rfl)
   refine tX #[true, true, true, true, true, true, true, true, false, false] (by kernel_rfl) ?_
   refine tP hK 8 10 (pA b1 2) (by kernel_rfl) (by kernel_rfl) (by kernel_rfl) (fun w => (by kernel_rfl)) #[true, true, true, true, true, true, true, true, true, false] (by kernel_rfl) fun a hK => ?_
   refine tM [9] (by kernel_rfl) rfl ⟨?_, trivial⟩
   refine sS hK hM 1 (cS s) (by kernel_rfl) rfl rfl rfl rfl (by kernel_rfl) fun w hM => ?_
   replace hM := hM.to [.row b2 64 [.int .i64 0, Str [], Str [], .int .i64 0, .slice none 0 0, .slice none 0 0, .slice none 0 0], .row b1 64 (cS s)] (by kernel_rfl)
   refine tX #[true, true, true, true, true, true, true, true, true, true] (by kernel_rfl) ?_
   exact treeE (by kernel_rfl) ⟨hK.sub ⟨rfl, rfl, rfl, trivial⟩, hM⟩
 rintro a w ⟨hK, hM⟩
 refine wp_seq ?_
 refine wp_cut (fun a w => ∃ (A2_2 : Option Addr), ∃ (A2_5 : Option Addr), ∃ (A2_8 : Option Addr), ∃ (G2_2 : List It), ∃ (G2_5 : List It), ∃ (G2_8 : List It), ∃ (K2_2 : List Ex), ∃ (K2_5 : List Sm), ∃ (K2_8 : List Sm), ∃ (c2_2 : Nat), ∃ (c2_5 : Nat), ∃ (c2_8 : Nat), Knows a 24 [(2, pA b2 0), (1, pA b1 0), (0, vS s)] ∧ Mem w0 w (.row b2 64 [.int .i64 0, Str [], Str [], .int .i64 0, .slice none 0 0, .slice none 0 0, .slice none 0 0] :: .row b1 64 [.int .i64 s.kind, Str s.nm, Str s.loc, .int .i64 s.ord, .slice A2_2 K2_2.length c2_2, .slice A2_5 K2_5.length c2_5, .slice A2_8 K2_8.length c2_8] :: ((G2_2 ++ G2_5) ++ G2_8)) ∧ (RowIn G2_2 28 A2_2 (K2_2.flatMap cE)) ∧ (RowIn G2_5 64 A2_5 (K2_5.flatMap cS)) ∧ (RowIn G2_8 64 A2_8 (K2_8.flatMap cS)) ∧ (exsEq K2_2 s.es = true) ∧ (smsEq K2_5 s.th = true) ∧ (smsEq K2_8 s.el = true) ∧ (∀ y ∈ K2_2, ExRows G2_2 y) ∧ (∀ y ∈ K2_5, SmRows G2_5 y) ∧ (∀ y ∈ K2_8, SmRows G2_8 y)) ?_ ?_
 ·refine region_tree hM (by kernel_rfl) 15 (by kernel_rfl) #[false, false, false, false, false, false, false, false, false, false, false, false, false, false, false] (by kernel_rfl) ?_
  clear hM; intro w hM
  refine tP hK 0 11 (pA b1 4) (by kernel_rfl) (by kernel_rfl) (by kernel_rfl) (fun w => (by kernel_rfl)) #[true, false, false, false, false, false, false, false, false, false, false, false, false, false, false] (by kernel_rfl) fun a hK => ?_
  refine tP hK 3 14 (pA b1 5) (by kernel_rfl) (by kernel_rfl) (by kernel_rfl) (fun w => (by kernel_rfl)) #[true, false, false, true, false, false, false, false, false, false, false, false, false, false, false] (by kernel_rfl) fun a hK => ?_
  refine tP hK 6 17 (pA b1 6) (by kernel_rfl) (by kernel_rfl) (by kernel_rfl) (fun w => (by kernel_rfl)) #[true, false, false, true, false, false, true, false, false, false, false, false, false, false, false] (by kernel_rfl) fun a hK => ?_
  refine tM [1, 4, 7] (by kernel_rfl) rfl ⟨?_, ?_, ?_, trivial⟩
  ·refine sL hK 12 (.slice s.A1 s.es.length s.c1) (by kernel_rfl) rfl rfl ((hM.row 1 rfl).cells 4 1) (by kernel_rfl) fun a hK => ?_
   refine tX #[true, true, false, true, false, false, true, false, false, false, false, false, false, false, false] (by kernel_rfl) ?_
   refine tM [2, 4, 7] (by kernel_rfl) rfl ⟨?_, ?_, ?_, trivial⟩
   ·refine sC hK hM 13 #[.slice s.A1 s.es.length s.c1, .func (.func 80) #[] #[]] (by kernel_rfl) (rC en_each_Expr rfl rfl (by kernel_rfl)) (ast_eachE s.es (fun x hx w1 h1 => ast_copyExpr x w1 h1 (exsSh_mem hssh.2.2.1 hx) (by have h8 := exsSz_mem hx; omega)) _ _ _ (hs.exprs.on hM.below) (by omega)) ?_
    rintro ⟨K2_2, A2_2, c2_2, G2_2⟩ a w ⟨hq2_2, hi2_2, hr2_2⟩ hK hM
    replace hM := (Mem.comm hM).to ((.row b2 64 [.int .i64 0, Str [], Str [], .int .i64 0, .slice none 0 0, .slice none 0 0, .slice none 0 0] :: .row b1 64 (cS s) :: G2_2)) (by kernel_rfl)
    refine tX #[true, true, true, true, false, false, true, false, false, false, false, false, false, false, false] (by kernel_rfl) ?_
    refine tM [4, 7] (by kernel_rfl) rfl ⟨?_, ?_, trivial⟩
    ·refine sL hK 15 (.slice s.A2 s.th.length s.c2) (by kernel_rfl) rfl rfl ((hM.row 1 rfl).cells 5 1) (by kernel_rfl) fun a hK => ?_
     refine tX #[true, true, true, true, true, false, true, false, false, false, false, false, false, false, false] (by kernel_rfl) ?_
     refine tM [5, 7] (by kernel_rfl) rfl ⟨?_, ?_, trivial⟩
     ·refine sC hK hM 16 #[.slice s.A2 s.th.length s.c2] (by kernel_rfl) (rC en_ast_copyStmts rfl rfl (by kernel_rfl)) (h1 _ _ _ (hs.thn.on hM.below) (by omega)) ?_
      rintro ⟨K2_5, A2_5, c2_5, G2_5⟩ a w ⟨hq2_5, hi2_5, hr2_5⟩ hK hM
      replace hM := (Mem.comm hM).to ((.row b2 64 [.int .i64 0, Str [], Str [], .int .i64 0, .slice none 0 0, .slice none 0 0, .slice none 0 0] :: .row b1 64 (cS s) :: (G2_2 ++ G2_5))) (by kernel_rfl)
      refine tX #[true, true, true, true, true, true, true, false, false, false, false, false, false, false, false] (by kernel_rfl) ?_
      refine tM [7] (by kernel_rfl) rfl ⟨?_, trivial⟩
      refine sL hK 18 (.slice s.A3 s.el.length s.c3) (by kernel_rfl) rfl rfl ((hM.row 1 rfl).cells 6 1) (by kernel_rfl) fun a hK => ?_
      refine tX #[true, true, true, true, true, true, true, true, false, false, false, false, false, false, false] (by kernel_rfl) ?_
      refine tP hK 9 20 (pA b1 4) (by kernel_rfl) (by kernel_rfl) (by kernel_rfl) (fun w => (by kernel_rfl)) #[true, true, true, true, true, true, true, true, false, true, false, false, false, false, false] (by kernel_rfl) fun a hK => ?_
      refine tM [8] (by kernel_rfl) rfl ⟨?_, trivial⟩
      refine sC hK hM 19 #[.slice s.A3 s.el.length s.c3] (by kernel_rfl) (rC en_ast_copyStmts rfl rfl (by kernel_rfl)) (h2 _ _ _ (hs.els.on hM.below) (by omega)) ?_
      rintro ⟨K2_8, A2_8, c2_8, G2_8⟩ a w ⟨hq2_8, hi2_8, hr2_8⟩ hK hM
      replace hM := (Mem.comm hM).to ((.row b2 64 [.int .i64 0, Str [], Str [], .int .i64 0, .slice none 0 0, .slice none 0 0, .slice none 0 0] :: .row b1 64 (cS s) :: ((G2_2 ++ G2_5) ++ G2_8))) (by kernel_rfl)
      refine tX #[true, true, true, true, true, true, true, true, true, true, false, false, false, false, false] (by kernel_rfl) ?_
      refine tM [10] (by kernel_rfl) rfl ⟨?_, trivial⟩
      refine sS hK hM 1 [.int .i64 s.kind, Str s.nm, Str s.loc, .int .i64 s.ord, .slice A2_2 K2_2.length c2_2, .slice s.A2 s.th.length s.c2, .slice s.A3 s.el.length s.c3] (by kernel_rfl) rfl rfl rfl rfl (by kernel_rfl) fun w hM => ?_
      replace hM := hM.to (.row b2 64 [.int .i64 0, Str [], Str [], .int .i64 0, .slice none 0 0, .slice none 0 0, .slice none 0 0] :: .row b1 64 [.int .i64 s.kind, Str s.nm, Str s.loc, .int .i64 s.ord, .slice A2_2 K2_2.length c2_2, .slice s.A2 s.th.length s.c2, .slice s.A3 s.el.length s.c3] :: ((G2_2 ++ G2_5) ++ G2_8)) (by kernel_rfl)
      refine tX #[true, true, true, true, true, true, true, true, true, true, true, false, false, false, false] (by kernel_rfl) ?_
      refine tP hK 11 21 (pA b1 5) (by kernel_rfl) (by kernel_rfl) (by kernel_rfl) (fun w => (by kernel_rfl)) #[true, true, true, true, true, true, true, true, true, true, true, true, false, false, false] (by kernel_rfl) fun a hK => ?_
      refine tM [12] (by kernel_rfl) rfl ⟨?_, trivial⟩
      refine sS hK hM 1 [.int .i64 s.kind, Str s.nm, Str s.loc, .int .i64 s.ord, .slice A2_2 K2_2.length c2_2, .slice A2_5 K2_5.length c2_5, .slice s.A3 s.el.length s.c3] (by kernel_rfl) rfl rfl rfl rfl (by kernel_rfl) fun w hM => ?_
      replace hM := hM.to (.row b2 64 [.int .i64 0, Str [], Str [], .int .i64 0, .slice none 0 0, .slice none 0 0, .slice none 0 0] :: .row b1 64 [.int .i64 s.kind, Str s.nm, Str s.loc, .int .i64 s.ord, .slice A2_2 K2_2.length c2_2, .slice A2_5 K2_5.length c2_5, .slice s.A3 s.el.length s.c3] :: ((G2_2 ++ G2_5) ++ G2_8)) (by kernel_rfl)
      refine tX #[true, true, true, true, true, true, true, true, true, true, true, true, true, false, false] (by kernel_rfl) ?_
      refine tP hK 13 22 (pA b1 6) (by kernel_rfl) (by kernel_rfl) (by kernel_rfl) (fun w => (by kernel_rfl)) #[true, true, true, true, true, true, true, true, true, true, true, true, true, true, false] (by kernel_rfl) fun a hK => ?_
      refine tM [14] (by kernel_rfl) rfl ⟨?_, trivial⟩
      refine sS hK hM 1 [.int .i64 s.kind, Str s.nm, Str s.loc, .int .i64 s.ord, .slice A2_2 K2_2.length c2_2, .slice A2_5 K2_5.length c2_5, .slice A2_8 K2_8.length c2_8] (by kernel_rfl) rfl rfl rfl rfl (by kernel_rfl) fun w hM => ?_
      replace hM := hM.to (.row b2 64 [.int .i64 0, Str [], Str [], .int .i64 0, .slice none 0 0, .slice none 0 0, .slice none 0 0] :: .row b1 64 [.int .i64 s.kind, Str s.nm, Str s.loc, .int .i64 s.ord, .slice A2_2 K2_2.length c2_2, .slice A2_5 K2_5.length c2_5, .slice A2_8 K2_8.length c2_8] :: ((G2_2 ++ G2_5) ++ G2_8)) (by kernel_rfl)
      refine tX #[true, true, true, true, true, true, true, true, true, true, true, true, true, true, true] (by kernel_rfl) ?_
      exact treeE (by kernel_rfl) ⟨A2_2, A2_5, A2_8, G2_2, G2_5, G2_8, K2_2, K2_5, K2_8, c2_2, c2_5, c2_8, hK.sub ⟨rfl, rfl, rfl, trivial⟩, hM, hi2_2, hi2_5, hi2_8, hq2_2, hq2_5, hq2_8, hr2_2, hr2_5, hr2_8⟩
     ·refine sL hK 18 (.slice s.A3 s.el.length s.c3) (by kernel_rfl) rfl rfl ((hM.row 1 rfl).cells 6 1) (by kernel_rfl) fun a hK => ?_
      refine tX #[true, true, true, true, true, false, true, true, false, false, false, false, false, false, false] (by kernel_rfl) ?_
      refine tP hK 9 20 (pA b1 4) (by kernel_rfl) (by kernel_rfl) (by kernel_rfl) (fun w => (by kernel_rfl)) #[true, true, true, true, true, false, true, true, false, true, false, false, false, false, false] (by kernel_rfl) fun a hK => ?_
      refine tM [5] (by kernel_rfl) rfl ⟨?_, trivial⟩
      refine sC hK hM 16 #[.slice s.A2 s.th.length s.c2] (by kernel_rfl) (rC en_ast_copyStmts rfl rfl (by kernel_rfl)) (h1 _ _ _ (hs.thn.on hM.below) (by omega)) ?_
      rintro ⟨K2_5, A2_5, c2_5, G2_5⟩ a w ⟨hq2_5, hi2_5, hr2_5⟩ hK hM
      replace hM := (Mem.comm hM).to ((.row b2 64 [.int .i64 0, Str [], Str [], .int .i64 0, .slice none 0 0, .slice none 0 0, .slice none 0 0] :: .row b1 64 (cS s) :: (G2_2 ++ G2_5))) (by kernel_rfl)
      refine tX #[true, true, true, true, true, true, true, true, false, true, false, false, false, false, false] (by kernel_rfl) ?_
      refine tM [8] (by kernel_rfl) rfl ⟨?_, trivial⟩
      refine sC hK hM 19 #[.slice s.A3 s.el.length s.c3] (by kernel_rfl) (rC en_ast_copyStmts rfl rfl (by kernel_rfl)) (h2 _ _ _ (hs.els.on hM.below) (by omega)) ?_
      rintro ⟨K2_8, A2_8, c2_8, G2_8⟩ a w ⟨hq2_8, hi2_8, hr2_8⟩ hK hM
      replace hM := (Mem.comm hM).to ((.row b2 64 [.int .i64 0, Str [], Str [], .int .i64 0, .slice none 0 0, .slice none 0 0, .slice none 0 0] :: .row b1 64 (cS s) :: ((G2_2 ++ G2_5) ++ G2_8))) (by kernel_rfl)
      refine tX #[true, true, true, true, true, true, true, true, true, true, false, false, false, false, false] (by kernel_rfl) ?_
      refine tM [10] (by kernel_rfl) rfl ⟨?_, trivial⟩
      refine sS hK hM 1 [.int .i64 s.kind, Str s.nm, Str s.loc, .int .i64 s.ord, .slice A2_2 K2_2.length c2_2, .slice s.A2 s.th.length s.c2, .slice s.A3 s.el.length s.c3] (by kernel_rfl) rfl rfl rfl rfl (by kernel_rfl) fun w hM => ?_
      replace hM := hM.to (.row b2 64 [.int .i64 0, Str [], Str [], .int .i64 0, .slice none 0 0, .slice none 0 0, .slice none 0 0] :: .row b1 64 [.int .i64 s.kind, Str s.nm, Str s.loc, .int .i64 s.ord, .slice A2_2 K2_2.length c2_2, .slice s.A2 s.th.length s.c2, .slice s.A3 s.el.length s.c3] :: ((G2_2 ++ G2_5) ++ G2_8)) (by kernel_rfl)
      refine tX #[true, true, true, true, true, true, true, true, true, true, true, false, false, false, false] (by kernel_rfl) ?_
      refine tP hK 11 21 (pA b1 5) (by kernel_rfl) (by kernel_rfl) (by kernel_rfl) (fun w => (by kernel_rfl)) #[true, true, true, true, true, true, true, true, true, true, true, true, false, false, false] (by kernel_rfl) fun a hK => ?_
      refine tM [12] (by kernel_rfl) rfl ⟨?_, trivial⟩
      refine sS hK hM 1 [.int .i64 s.kind, Str s.nm, Str s.loc, .int .i64 s.ord, .slice A2_2 K2_2.length c2_2, .slice A2_5 K2_5.length c2_5, .slice s.A3 s.el.length s.c3] (by kernel_rfl) rfl rfl rfl rfl (by kernel_rfl) fun w hM => ?_
      replace hM := hM.to (.row b2 64 [.int .i64 0, Str [], Str [], .int .i64 0, .slice none 0 0, .slice none 0 0, .slice none 0 0] :: .row b1 64 [.int .i64 s.kind, Str s.nm, Str s.loc, .int .i64 s.ord, .slice A2_2 K2_2.length c2_2, .slice A2_5 K2_5.length c2_5, .slice s.A3 s.el.length s.c3] :: ((G2_2 ++ G2_5) ++ G2_8)) (by kernel_rfl)
      refine tX #[true, true, true, true, true, true, true, true, true, true, true, true, true, false, false] (by kernel_rfl) ?_
      refine tP hK 13 22 (pA b1 6) (by kernel_rfl) (by kernel_rfl) (by kernel_rfl) (fun w => (by kernel_rfl)) #[true, true, true, true, true, true, true, true, true, true, true, true, true, true, false] (by kernel_rfl) fun a hK => ?_
      refine tM [14] (by kernel_rfl) rfl ⟨?_, trivial⟩
      refine sS hK hM 1 [.int .i64 s.kind, Str s.nm, Str s.loc, .int .i64 s.ord, .slice A2_2 K2_2.length c2_2, .slice A2_5 K2_5.length c2_5, .slice A2_8 K2_8.length c2_8] (by kernel_rfl) rfl rfl rfl rfl (by kernel_rfl) fun w hM => ?_
      replace hM := hM.to (.row b2 64 [.int .i64 0, Str [], Str [], .int .i64 0, .slice none 0 0, .slice none 0 0, .slice none 0 0] :: .row b1 64 [.int .i64 s.kind, Str s.nm, Str s.loc, .int .i64 s.ord, .slice A2_2 K2_2.length c2_2, .slice A2_5 K2_5.length c2_5, .slice A2_8 K2_8.length c2_8] :: ((G2_2 ++ G2_5) ++ G2_8)) (by kernel_rfl)
      refine tX #[true, true, true, true, true, true, true, true, true, true, true, true, true, true, true] (by kernel_rfl) ?_
      exact treeE (by kernel_rfl) ⟨A2_2, A2_5, A2_8, G2_2, G2_5, G2_8, K2_2, K2_5, K2_8, c2_2, c2_5, c2_8, hK.sub ⟨rfl, rfl, rfl, trivial⟩, hM, hi2_2, hi2_5, hi2_8, hq2_2, hq2_5, hq2_8, hr2_2, hr2_5, hr2_8⟩
    ·refine sL hK 18 (.slice s.A3 s.el.length s.c3) (by kernel_rfl) rfl rfl ((hM.row 1 rfl).cells 6 1) (by kernel_rfl) fun a hK => ?_
     refine tX #[true, true, true, true, false, false, true, true, false, false, false, false, false, false, false] (by kernel_rfl) ?_
     refine tM [4] (by kernel_rfl) rfl ⟨?_, trivial⟩
     refine sL hK 15 (.slice s.A2 s.th.length s.c2) (by kernel_rfl) rfl rfl ((hM.row 1 rfl).cells 5 1) (by kernel_rfl) fun a hK => ?_
     refine tX #[true, true, true, true, true, false, true, true, false, false, false, false, false, false, false] (by kernel_rfl) ?_
     refine tP hK 9 20 (pA b1 4) (by kernel_rfl) (by kernel_rfl) (by kernel_rfl) (fun w => (by kernel_rfl)) #[true, true, true, true, true, false, true, true, false, true, false, false, false, false, false] (by kernel_rfl) fun a hK => ?_
     refine tM [5] (by kernel_rfl) rfl ⟨?_, trivial⟩
     refine sC hK hM 16 #[.slice s.A2 s.th.length s.c2] (by kernel_rfl) (rC en_ast_copyStmts rfl rfl (by kernel_rfl)) (h1 _ _ _ (hs.thn.on hM.below) (by omega)) ?_
     rintro ⟨K2_5, A2_5, c2_5, G2_5⟩ a w ⟨hq2_5, hi2_5, hr2_5⟩ hK hM
     replace hM := (Mem.comm hM).to ((.row b2 64 [.int .i64 0, Str [], Str [], .int .i64 0, .slice none 0 0, .slice none 0 0, .slice none 0 0] :: .row b1 64 (cS s) :: (G2_2 ++ G2_5))) (by kernel_rfl)
     refine tX #[true, true, true, true, true, true, true, true, false, true, false, false, false, false, false] (by kernel_rfl) ?_
     refine tM [8] (by kernel_rfl) rfl ⟨?_, trivial⟩
     refine sC hK hM 19 #[.slice s.A3 s.el.length s.c3] (by kernel_rfl) (rC en_ast_copyStmts rfl rfl (by kernel_rfl)) (h2 _ _ _ (hs.els.on hM.below) (by omega)) ?_
     rintro ⟨K2_8, A2_8, c2_8, G2_8⟩ a w ⟨hq2_8, hi2_8, hr2_8⟩ hK hM
     replace hM := (Mem.comm hM).to ((.row b2 64 [.int .i64 0, Str [], Str [], .int .i64 0, .slice none 0 0, .slice none 0 0, .slice none 0 0] :: .row b1 64 (cS s) :: ((G2_2 ++ G2_5) ++ G2_8))) (by kernel_rfl)
     refine tX #[true, true, true, true, true, true, true, true, true, true, false, false, false, false, false] (by kernel_rfl) ?_
     refine tM [10] (by kernel_rfl) rfl ⟨?_, trivial⟩
     refine sS hK hM 1 [.int .i64 s.kind, Str s.nm, Str s.loc, .int .i64 s.ord, .slice A2_2 K2_2.length c2_2, .slice s.A2 s.th.length s.c2, .slice s.A3 s.el.length s.c3] (by kernel_rfl) rfl rfl rfl rfl (by kernel_rfl) fun w hM => ?_
     replace hM := hM.to (.row b2 64 [.int .i64 0, Str [], Str [], .int .i64 0, .slice none 0 0, .slice none 0 0, .slice none 0 0] :: .row b1 64 [.int .i64 s.kind, Str s.nm, Str s.loc, .int .i64 s.ord, .slice A2_2 K2_2.length c2_2, .slice s.A2 s.th.length s.c2, .slice s.A3 s.el.length s.c3] :: ((G2_2 ++ G2_5) ++ G2_8)) (by kernel_rfl)
     refine tX #[true, true, true, true, true, true, true, true, true, true, true, false, false, false, false] (by kernel_rfl) ?_
     refine tP hK 11 21 (pA b1 5) (by kernel_rfl) (by kernel_rfl) (by kernel_rfl) (fun w => (by kernel_rfl)) #[true, true, true, true, true, true, true, true, true, true, true, true, false, false, false] (by kernel_rfl) fun a hK => ?_
     refine tM [12] (by kernel_rfl) rfl ⟨?_, trivial⟩
     refine sS hK hM 1 [.int .i64 s.kind, Str s.nm, Str s.loc, .int .i64 s.ord, .slice A2_2 K2_2.length c2_2, .slice A2_5 K2_5.length c2_5, .slice s.A3 s.el.length s.c3] (by kernel_rfl) rfl rfl rfl rfl (by kernel_rfl) fun w hM => ?_
     replace hM := hM.to (.row b2 64 [.int .i64 0, Str [], Str [], .int .i64 0, .slice none 0 0, .slice none 0 0, .slice none 0 0] :: .row b1 64 [.int .i64 s.kind, Str s.nm, Str s.loc, .int .i64 s.ord, .slice A2_2 K2_2.length c2_2, .slice A2_5 K2_5.length c2_5, .slice s.A3 s.el.length s.c3] :: ((G2_2 ++ G2_5) ++ G2_8)) (by kernel_rfl)
     refine tX #[true, true, true, true, true, true, true, true, true, true, true, true, true, false, false] (by kernel_rfl) ?_
     refine tP hK 13 22 (pA b1 6) (by kernel_rfl) (by kernel_rfl) (by kernel_rfl) (fun w => (by kernel_rfl)) #[true, true, true, true, true, true, true, true, true, true, true, true, true, true, false] (by kernel_rfl) fun a hK => ?_
     refine tM [14] (by kernel_rfl) rfl ⟨?_, trivial⟩
     refine sS hK hM 1 [.int .i64 s.kind, Str s.nm, Str s.loc, .int .i64 s.ord, .slice A2_2 K2_2.length c2_2, .slice A2_5 K2_5.length c2_5, .slice A2_8 K2_8.length c2_8] (by kernel_rfl) rfl rfl rfl rfl (by kernel_rfl) fun w hM => ?_
     replace hM := hM.to (.row b2 64 [.int .i64 0, Str [], Str [], .int .i64 0, .slice none 0 0, .slice none 0 0, .slice none 0 0] :: .row b1 64 [.int .i64 s.kind, Str s.nm, Str s.loc, .int .i64 s.ord, .slice A2_2 K2_2.length c2_2, .slice A2_5 K2_5.length c2_5, .slice A2_8 K2_8.length c2_8] :: ((G2_2 ++ G2_5) ++ G2_8)) (by kernel_rfl)
     refine tX #[true, true, true, true, true, true, true, true, true, true, true, true, true, true, true] (by kernel_rfl) ?_
     exact treeE (by kernel_rfl) ⟨A2_2, A2_5, A2_8, G2_2, G2_5, G2_8, K2_2, K2_5, K2_8, c2_2, c2_5, c2_8, hK.sub ⟨rfl, rfl, rfl, trivial⟩, hM, hi2_2, hi2_5, hi2_8, hq2_2, hq2_5, hq2_8, hr2_2, hr2_5, hr2_8⟩
   ·refine sL hK 15 (.slice s.A2 s.th.length s.c2) (by kernel_rfl) rfl rfl ((hM.row 1 rfl).cells 5 1) (by kernel_rfl) fun a hK => ?_
    refine tX #[true, true, false, true, true, false, true, false, false, false, false, false, false, false, false] (by kernel_rfl) ?_
    refine tM [2, 7] (by kernel_rfl) rfl ⟨?_, ?_, trivial⟩
    ·refine sC hK hM 13 #[.slice s.A1 s.es.length s.c1, .func (.func 80) #[] #[]] (by kernel_rfl) (rC en_each_Expr rfl rfl (by kernel_rfl)) (ast_eachE s.es (fun x hx w1 h1 => ast_copyExpr x w1 h1 (exsSh_mem hssh.2.2.1 hx) (by have h8 := exsSz_mem hx; omega)) _ _ _ (hs.exprs.on hM.below) (by omega)) ?_
     rintro ⟨K2_2, A2_2, c2_2, G2_2⟩ a w ⟨hq2_2, hi2_2, hr2_2⟩ hK hM
     replace hM := (Mem.comm hM).to ((.row b2 64 [.int .i64 0, Str [], Str [], .int .i64 0, .slice none 0 0, .slice none 0 0, .slice none 0 0] :: .row b1 64 (cS s) :: G2_2)) (by kernel_rfl)
     refine tX #[true, true, true, true, true, false, true, false, false, false, false, false, false, false, false] (by kernel_rfl) ?_
     refine tM [5, 7] (by kernel_rfl) rfl ⟨?_, ?_, trivial⟩
     ·refine sC hK hM 16 #[.slice s.A2 s.th.length s.c2] (by kernel_rfl) (rC en_ast_copyStmts rfl rfl (by kernel_rfl)) (h1 _ _ _ (hs.thn.on hM.below) (by omega)) ?_
      rintro ⟨K2_5, A2_5, c2_5, G2_5⟩ a w ⟨hq2_5, hi2_5, hr2_5⟩ hK hM
      replace hM := (Mem.comm hM).to ((.row b2 64 [.int .i64 0, Str [], Str [], .int .i64 0, .slice none 0 0, .slice none 0 0, .slice none 0 0] :: .row b1 64 (cS s) :: (G2_2 ++ G2_5))) (by kernel_rfl)
      refine tX #[true, true, true, true, true, true, true, false, false, false, false, false, false, false, false] (by kernel_rfl) ?_
      refine tM [7] (by kernel_rfl) rfl ⟨?_, trivial⟩
      refine sL hK 18 (.slice s.A3 s.el.length s.c3) (by kernel_rfl) rfl rfl ((hM.row 1 rfl).cells 6 1) (by kernel_rfl) fun a hK => ?_
      refine tX #[true, true, true, true, true, true, true, true, false, false, false, false, false, false, false] (by kernel_rfl) ?_
      refine tP hK 9 20 (pA b1 4) (by kernel_rfl) (by kernel_rfl) (by kernel_rfl) (fun w => (by kernel_rfl)) #[true, true, true, true, true, true, true, true, false, true, false, false, false, false, false] (by kernel_rfl) fun a hK => ?_
      refine tM [8] (by kernel_rfl) rfl ⟨?_, trivial⟩
      refine sC hK hM 19 #[.slice s.A3 s.el.length s.c3] (by kernel_rfl) (rC en_ast_copyStmts rfl rfl (by kernel_rfl)) (h2 _ _ _ (hs.els.on hM.below) (by omega)) ?_
      rintro ⟨K2_8, A2_8, c2_8, G2_8⟩ a w ⟨hq2_8, hi2_8, hr2_8⟩ hK hM
      replace hM := (Mem.comm hM).to ((.row b2 64 [.int .i64 0, Str [], Str [], .int .i64 0, .slice none 0 0, .slice none 0 0, .slice none 0 0] :: .row b1 64 (cS s) :: ((G2_2 ++ G2_5) ++ G2_8))) (by kernel_rfl)
      refine tX #[true, true, true, true, true, true, true, true, true, true, false, false, false, false, false] (by kernel_rfl) ?_
      refine tM [10] (by kernel_rfl) rfl ⟨?_, trivial⟩
      refine sS hK hM 1 [.int .i64 s.kind, Str s.nm, Str s.loc, .int .i64 s.ord, .slice A2_2 K2_2.length c2_2, .slice s.A2 s.th.length s.c2, .slice s.A3 s.el.length s.c3] (by kernel_rfl) rfl rfl rfl rfl (by kernel_rfl) fun w hM => ?_
      replace hM := hM.to (.row b2 64 [.int .i64 0, Str [], Str [], .int .i64 0, .slice none 0 0, .slice none 0 0, .slice none 0 0] :: .row b1 64 [.int .i64 s.kind, Str s.nm, Str s.loc, .int .i64 s.ord, .slice A2_2 K2_2.length c2_2, .slice s.A2 s.th.length s.c2, .slice s.A3 s.el.length s.c3] :: ((G2_2 ++ G2_5) ++ G2_8)) (by kernel_rfl)
      refine tX #[true, true, true, true, true, true, true, true, true, true, true, false, false, false, false] (by kernel_rfl) ?_
      refine tP hK 11 21 (pA b1 5) (by kernel_rfl) (by kernel_rfl) (by kernel_rfl) (fun w => (by kernel_rfl)) #[true, true, true, true, true, true, true, true, true, true, true, true, false, false, false] (by kernel_rfl) fun a hK => ?_
      refine tM [12] (by kernel_rfl) rfl ⟨?_, trivial⟩
      refine sS hK hM 1 [.int .i64 s.kind, Str s.nm, Str s.loc, .int .i64 s.ord, .slice A2_2 K2_2.length c2_2, .slice A2_5 K2_5.length c2_5, .slice s.A3 s.el.length s.c3] (by kernel_rfl) rfl rfl rfl rfl (by kernel_rfl) fun w hM => ?_
      replace hM := hM.to (.row b2 64 [.int .i64 0, Str [], Str [], .int .i64 0, .slice none 0 0, .slice none 0 0, .slice none 0 0] :: .row b1 64 [.int .i64 s.kind, Str s.nm, Str s.loc, .int .i64 s.ord, .slice A2_2 K2_2.length c2_2, .slice A2_5 K2_5.length c2_5, .slice s.A3 s.el.length s.c3] :: ((G2_2 ++ G2_5) ++ G2_8)) (by kernel_rfl)
      refine tX #[true, true, true, true, true, true, true, true, true, true, true, true, true, false, false] (by kernel_rfl) ?_
      refine tP hK 13 22 (pA b1 6) (by kernel_rfl) (by kernel_rfl) (by kernel_rfl) (fun w => (by kernel_rfl)) #[true, true, true, true, true, true, true, true, true, true, true, true, true, true, false] (by kernel_rfl) fun a hK => ?_
      refine tM [14] (by kernel_rfl) rfl ⟨?_, trivial⟩
      refine sS hK hM 1 [.int .i64 s.kind, Str s.nm, Str s.loc, .int .i64 s.ord, .slice A2_2 K2_2.length c2_2, .slice A2_5 K2_5.length c2_5, .slice A2_8 K2_8.length c2_8] (by kernel_rfl) rfl rfl rfl rfl (by kernel_rfl) fun w hM => ?_
      replace hM := hM.to (.row b2 64 [.int .i64 0, Str [], Str [], .int .i64 0, .slice none 0 0, .slice none 0 0, .slice none 0 0] :: .row b1 64 [.int .i64 s.kind, Str s.nm, Str s.loc, .int .i64 s.ord, .slice A2_2 K2_2.length c2_2, .slice A2_5 K2_5.length c2_5, .slice A2_8 K2_8.length c2_8] :: ((G2_2 ++ G2_5) ++ G2_8)) (by kernel_rfl)
      refine tX #[true, true, true, true, true, true, true, true, true, true, true, true, true, true, true] (by kernel_rfl) ?_
      exact treeE (by kernel_rfl) ⟨A2_2, A2_5, A2_8, G2_2, G2_5, G2_8, K2_2, K2_5, K2_8, c2_2, c2_5, c2_8, hK.sub ⟨rfl, rfl, rfl, trivial⟩, hM, hi2_2, hi2_5, hi2_8, hq2_2, hq2_5, hq2_8, hr2_2, hr2_5, hr2_8⟩
     ·refine sL hK 18 (.slice s.A3 s.el.length s.c3) (by kernel_rfl) rfl rfl ((hM.row 1 rfl).cells 6 1) (by kernel_rfl) fun a hK => ?_
      refine tX #[true, true, true, true, true, false, true, true, false, false, false, false, false, false, false] (by kernel_rfl) ?_
      refine tP hK 9 20 (pA b1 4) (by kernel_rfl) (by kernel_rfl) (by kernel_rfl) (fun w => (by kernel_rfl)) #[true, true, true, true, true, false, true, true, false, true, false, false, false, false, false] (by kernel_rfl) fun a hK => ?_
      refine tM [5] (by kernel_rfl) rfl ⟨?_, trivial⟩
      refine sC hK hM 16 #[.slice s.A2 s.th.length s.c2] (by kernel_rfl) (rC en_ast_copyStmts rfl rfl (by kernel_rfl)) (h1 _ _ _ (hs.thn.on hM.below) (by omega)) ?_
      rintro ⟨K2_5, A2_5, c2_5, G2_5⟩ a w ⟨hq2_5, hi2_5, hr2_5⟩ hK hM
      replace hM := (Mem.comm hM).to ((.row b2 64 [.int .i64 0, Str [], Str [], .int .i64 0, .slice none 0 0, .slice none 0 0, .slice none 0 0] :: .row b1 64 (cS s) :: (G2_2 ++ G2_5))) (by kernel_rfl)
      refine tX #[true, true, true, true, true, true, true, true, false, true, false, false, false, false, false] (by kernel_rfl) ?_
      refine tM [8] (by kernel_rfl) rfl ⟨?_, trivial⟩
      refine sC hK hM 19 #[.slice s.A3 s.el.length s.c3] (by kernel_rfl) (rC en_ast_copyStmts rfl rfl (by kernel_rfl)) (h2 _ _ _ (hs.els.on hM.below) (by omega)) ?_
      rintro ⟨K2_8, A2_8, c2_8, G2_8⟩ a w ⟨hq2_8, hi2_8, hr2_8⟩ hK hM
      replace hM := (Mem.comm hM).to ((.row b2 64 [.int .i64 0, Str [], Str [], .int .i64 0, .slice none 0 0, .slice none 0 0, .slice none 0 0] :: .row b1 64 (cS s) :: ((G2_2 ++ G2_5) ++ G2_8))) (by kernel_rfl)
      refine tX #[true, true, true, true, true, true, true, true, true, true, false, false, false, false, false] (by kernel_rfl) ?_
      refine tM [10] (by kernel_rfl) rfl ⟨?_, trivial⟩
      refine sS hK hM 1 [.int .i64 s.kind, Str s.nm, Str s.loc, .int .i64 s.ord, .slice A2_2 K2_2.length c2_2, .slice s.A2 s.th.length s.c2, .slice s.A3 s.el.length s.c3] (by kernel_rfl) rfl rfl rfl rfl (by kernel_rfl) fun w hM => ?_
      replace hM := hM.to (.row b2 64 [.int .i64 0, Str [], Str [], .int .i64 0, .slice none 0 0, .slice none 0 0, .slice none 0 0] :: .row b1 64 [.int .i64 s.kind, Str s.nm, Str s.loc, .int .i64 s.ord, .slice A2_2 K2_2.length c2_2, .slice s.A2 s.th.length s.c2, .slice s.A3 s.el.length s.c3] :: ((G2_2 ++ G2_5) ++ G2_8)) (by kernel_rfl)
      refine tX #[true, true, true, true, true, true, true, true, true, true, true, false, false, false, false] (by kernel_rfl) ?_
      refine tP hK 11 21 (pA b1 5) (by kernel_rfl) (by kernel_rfl) (by kernel_rfl) (fun w => (by kernel_rfl)) #[true, true, true, true, true, true, true, true, true, true, true, true, false, false, false] (by kernel_rfl) fun a hK => ?_
      refine tM [12] (by kernel_rfl) rfl ⟨?_, trivial⟩
      refine sS hK hM 1 [.int .i64 s.kind, Str s.nm, Str s.loc, .int .i64 s.ord, .slice A2_2 K2_2.length c2_2, .slice A2_5 K2_5.length c2_5, .slice s.A3 s.el.length s.c3] (by kernel_rfl) rfl rfl rfl rfl (by kernel_rfl) fun w hM => ?_
      replace hM := hM.to (.row b2 64 [.int .i64 0, Str [], Str [], .int .i64 0, .slice none 0 0, .slice none 0 0, .slice none 0 0] :: .row b1 64 [.int .i64 s.kind, Str s.nm, Str s.loc, .int .i64 s.ord, .slice A2_2 K2_2.length c2_2, .slice A2_5 K2_5.length c2_5, .slice s.A3 s.el.length s.c3] :: ((G2_2 ++ G2_5) ++ G2_8)) (by kernel_rfl)
      refine tX #[true, true, true, true, true, true, true, true, true, true, true, true, true, false, false] (by kernel_rfl) ?_
      refine tP hK 13 22 (pA b1 6) (by kernel_rfl) (by kernel_rfl) (by kernel_rfl) (fun w => (by kernel_rfl)) #[true, true, true, true, true, true, true, true, true, true, true, true, true, true, false] (by kernel_rfl) fun a hK => ?_
      refine tM [14] (by kernel_rfl) rfl ⟨?_, trivial⟩
      refine sS hK hM 1 [.int .i64 s.kind, Str s.nm, Str s.loc, .int .i64 s.ord, .slice A2_2 K2_2.length c2_2, .slice A2_5 K2_5.length c2_5, .slice A2_8 K2_8.length c2_8] (by kernel_rfl) rfl rfl rfl rfl (by kernel_rfl) fun w hM => ?_
      replace hM := hM.to (.row b2 64 [.int .i64 0, Str [], Str [], .int .i64 0, .slice none 0 0, .slice none 0 0, .slice none 0 0] :: .row b1 64 [.int .i64 s.kind, Str s.nm, Str s.loc, .int .i64 s.ord, .slice A2_2 K2_2.length c2_2, .slice A2_5 K2_5.length c2_5, .slice A2_8 K2_8.length c2_8] :: ((G2_2 ++ G2_5) ++ G2_8)) (by kernel_rfl)
      refine tX #[true, true, true, true, true, true, true, true, true, true, true, true, true, true, true] (by kernel_rfl) ?_
      exact treeE (by kernel_rfl) ⟨A2_2, A2_5, A2_8, G2_2, G2_5, G2_8, K2_2, K2_5, K2_8, c2_2, c2_5, c2_8, hK.sub ⟨rfl, rfl, rfl, trivial⟩, hM, hi2_2, hi2_5, hi2_8, hq2_2, hq2_5, hq2_8, hr2_2, hr2_5, hr2_8⟩
    ·refine sL hK 18 (.slice s.A3 s.el.length s.c3) (by kernel_rfl) rfl rfl ((hM.row 1 rfl).cells 6 1) (by kernel_rfl) fun a hK => ?_
     refine tX #[true, true, false, true, true, false, true, true, false, false, false, false, false, false, false] (by kernel_rfl) ?_
     refine tM [2] (by kernel_rfl) rfl ⟨?_, trivial⟩
     refine sC hK hM 13 #[.slice s.A1 s.es.length s.c1, .func (.func 80) #[] #[]] (by kernel_rfl) (rC en_each_Expr rfl rfl (by kernel_rfl)) (ast_eachE s.es (fun x hx w1 h1 => ast_copyExpr x w1 h1 (exsSh_mem hssh.2.2.1 hx) (by have h8 := exsSz_mem hx; omega)) _ _ _ (hs.exprs.on hM.below) (by omega)) ?_
     rintro ⟨K2_2, A2_2, c2_2, G2_2⟩ a w ⟨hq2_2, hi2_2, hr2_2⟩ hK hM
     replace hM := (Mem.comm hM).to ((.row b2 64 [.int .i64 0, Str [], Str [], .int .i64 0, .slice none 0 0, .slice none 0 0, .slice none 0 0] :: .row b1 64 (cS s) :: G2_2)) (by kernel_rfl)
     refine tX #[true, true, true, true, true, false, true, true, false, false, false, false, false, false, false] (by kernel_rfl) ?_
     refine tP hK 9 20 (pA b1 4) (by kernel_rfl) (by kernel_rfl) (by kernel_rfl) (fun w => (by kernel_rfl)) #[true, true, true, true, true, false, true, true, false, true, false, false, false, false, false] (by kernel_rfl) fun a hK => ?_
     refine tM [5] (by kernel_rfl) rfl ⟨?_, trivial⟩
     refine sC hK hM 16 #[.slice s.A2 s.th.length s.c2] (by kernel_rfl) (rC en_ast_copyStmts rfl rfl (by kernel_rfl)) (h1 _ _ _ (hs.thn.on hM.below) (by omega)) ?_
     rintro ⟨K2_5, A2_5, c2_5, G2_5⟩ a w ⟨hq2_5, hi2_5, hr2_5⟩ hK hM
     replace hM := (Mem.comm hM).to ((.row b2 64 [.int .i64 0, Str [], Str [], .int .i64 0, .slice none 0 0, .slice none 0 0, .slice none 0 0] :: .row b1 64 (cS s) :: (G2_2 ++ G2_5))) (by kernel_rfl)
     refine tX #[true, true, true, true, true, true, true, true, false, true, false, false, false, false, false] (by kernel_rfl) ?_
     refine tM [8] (by kernel_rfl) rfl ⟨?_, trivial⟩
     refine sC hK hM 19 #[.slice s.A3 s.el.length s.c3] (by kernel_rfl) (rC en_ast_copyStmts rfl rfl (by kernel_rfl)) (h2 _ _ _ (hs.els.on hM.below) (by omega)) ?_
     rintro ⟨K2_8, A2_8, c2_8, G2_8⟩ a w ⟨hq2_8, hi2_8, hr2_8⟩ hK hM
     replace hM := (Mem.comm hM).to ((.row b2 64 [.int .i64 0, Str [], Str [], .int .i64 0, .slice none 0 0, .slice none 0 0, .slice none 0 0] :: .row b1 64 (cS s) :: ((G2_2 ++ G2_5) ++ G2_8))) (by kernel_rfl)
     refine tX #[true, true, true, true, true, true, true, true, true, true, false, false, false, false, false] (by kernel_rfl) ?_
     refine tM [10] (by kernel_rfl) rfl ⟨?_, trivial⟩
     refine sS hK hM 1 [.int .i64 s.kind, Str s.nm, Str s.loc, .int .i64 s.ord, .slice A2_2 K2_2.length c2_2, .slice s.A2 s.th.length s.c2, .slice s.A3 s.el.length s.c3] (by kernel_rfl) rfl rfl rfl rfl (by kernel_rfl) fun w hM => ?_
     replace hM := hM.to (.row b2 64 [.int .i64 0, Str [], Str [], .int .i64 0, .slice none 0 0, .slice none 0 0, .slice none 0 0] :: .row b1 64 [.int .i64 s.kind, Str s.nm, Str s.loc, .int .i64 s.ord, .slice A2_2 K2_2.length c2_2, .slice s.A2 s.th.length s.c2, .slice s.A3 s.el.length s.c3] :: ((G2_2 ++ G2_5) ++ G2_8)) (by kernel_rfl)
     refine tX #[true, true, true, true, true, true, true, true, true, true, true, false, false, false, false] (by kernel_rfl) ?_
     refine tP hK 11 21 (pA b1 5) (by kernel_rfl) (by kernel_rfl) (by kernel_rfl) (fun w => (by kernel_rfl)) #[true, true, true, true, true, true, true, true, true, true, true, true, false, false, false] (by kernel_rfl) fun a hK => ?_
     refine tM [12] (by kernel_rfl) rfl ⟨?_, trivial⟩
     refine sS hK hM 1 [.int .i64 s.kind, Str s.nm, Str s.loc, .int .i64 s.ord, .slice A2_2 K2_2.length c2_2, .slice A2_5 K2_5.length c2_5, .slice s.A3 s.el.length s.c3] (by kernel_rfl) rfl rfl rfl rfl (by kernel_rfl) fun w hM => ?_
     replace hM := hM.to (.row b2 64 [.int .i64 0, Str [], Str [], .int .i64 0, .slice none 0 0, .slice none 0 0, .slice none 0 0] :: .row b1 64 [.int .i64 s.kind, Str s.nm, Str s.loc, .int .i64 s.ord, .slice A2_2 K2_2.length c2_2, .slice A2_5 K2_5.length c2_5, .slice s.A3 s.el.length s.c3] :: ((G2_2 ++ G2_5) ++ G2_8)) (by kernel_rfl)
     refine tX #[true, true, true, true, true, true, true, true, true, true, true, true, true, false, false] (by kernel_rfl) ?_
     refine tP hK 13 22 (pA b1 6) (by kernel_rfl) (by kernel_rfl) (by kernel_rfl) (fun w => (by kernel_rfl)) #[true, true, true, true, true, true, true, true, true, true, true, true, true, true, false] (by kernel_rfl) fun a hK => ?_
     refine tM [14] (by kernel_rfl) rfl ⟨?_, trivial⟩
     refine sS hK hM 1 [.int .i64 s.kind, Str s.nm, Str s.loc, .int .i64 s.ord, .slice A2_2 K2_2.length c2_2, .slice A2_5 K2_5.length c2_5, .slice A2_8 K2_8.length c2_8] (by kernel_rfl) rfl rfl rfl rfl (by kernel_rfl) fun w hM => ?_
     replace hM := hM.to (.row b2 64 [.int .i64 0, Str [], Str [], .int .i64 0, .slice none 0 0, .slice none 0 0, .slice none 0 0] :: .row b1 64 [.int .i64 s.kind, Str s.nm, Str s.loc, .int .i64 s.ord, .slice A2_2 K2_2.length c2_2, .slice A2_5 K2_5.length c2_5, .slice A2_8 K2_8.length c2_8] :: ((G2_2 ++ G2_5) ++ G2_8)) (by kernel_rfl)
     refine tX #[true, true, true, true, true, true, true, true, true, true, true, true, true, true, true] (by kernel_rfl) ?_
     exact treeE (by kernel_rfl) ⟨A2_2, A2_5, A2_8, G2_2, G2_5, G2_8, K2_2, K2_5, K2_8, c2_2, c2_5, c2_8, hK.sub ⟨rfl, rfl, rfl, trivial⟩, hM, hi2_2, hi2_5, hi2_8, hq2_2, hq2_5, hq2_8, hr2_2, hr2_5, hr2_8⟩
   ·refine sL hK 18 (.slice s.A3 s.el.length s.c3) (by kernel_rfl) rfl rfl ((hM.row 1 rfl).cells 6 1) (by kernel_rfl) fun a hK => ?_
    refine tX #[true, true, false, true, false, false, true, true, false, false, false, false, false, false, false] (by kernel_rfl) ?_
    refine tM [2, 4] (by kernel_rfl) rfl ⟨?_, ?_, trivial⟩
    ·refine sC hK hM 13 #[.slice s.A1 s.es.length s.c1, .func (.func 80) #[] #[]] (by kernel_rfl) (rC en_each_Expr rfl rfl (by kernel_rfl)) (ast_eachE s.es (fun x hx w1 h1 => ast_copyExpr x w1 h1 (exsSh_mem hssh.2.2.1 hx) (by have h8 := exsSz_mem hx; omega)) _ _ _ (hs.exprs.on hM.below) (by omega)) ?_
     rintro ⟨K2_2, A2_2, c2_2, G2_2⟩ a w ⟨hq2_2, hi2_2, hr2_2⟩ hK hM
     replace hM := (Mem.comm hM).to ((.row b2 64 [.int .i64 0, Str [], Str [], .int .i64 0, .slice none 0 0, .slice none 0 0, .slice none 0 0] :: .row b1 64 (cS s) :: G2_2)) (by kernel_rfl)
     refine tX #[true, true, true, true, false, false, true, true, false, false, false, false, false, false, false] (by kernel_rfl) ?_
     refine tM [4] (by kernel_rfl) rfl ⟨?_, trivial⟩
     refine sL hK 15 (.slice s.A2 s.th.length s.c2) (by kernel_rfl) rfl rfl ((hM.row 1 rfl).cells 5 1) (by kernel_rfl) fun a hK => ?_
     refine tX #[true, true, true, true, true, false, true, true, false, false, false, false, false, false, false] (by kernel_rfl) ?_
     refine tP hK 9 20 (pA b1 4) (by kernel_rfl) (by kernel_rfl) (by kernel_rfl) (fun w => (by kernel_rfl)) #[true, true, true, true, true, false, true, true, false, true, false, false, false, false, false] (by kernel_rfl) fun a hK => ?_
     refine tM [5] (by kernel_rfl) rfl ⟨?_, trivial⟩
     refine sC hK hM 16 #[.slice s.A2 s.th.length s.c2] (by kernel_rfl) (rC en_ast_copyStmts rfl rfl (by kernel_rfl)) (h1 _ _ _ (hs.thn.on hM.below) (by omega)) ?_
     rintro ⟨K2_5, A2_5, c2_5, G2_5⟩ a w ⟨hq2_5, hi2_5, hr2_5⟩ hK hM
     replace hM := (Mem.comm hM).to ((.row b2 64 [.int .i64 0, Str [], Str [], .int .i64 0, .slice none 0 0, .slice none 0 0, .slice none 0 0] :: .row b1 64 (cS s) :: (G2_2 ++ G2_5))) (by kernel_rfl)
     refine tX #[true, true, true, true, true, true, true, true, false, true, false, false, false, false, false] (by kernel_rfl) ?_
     refine tM [8] (by kernel_rfl) rfl ⟨?_, trivial⟩
     refine sC hK hM 19 #[.slice s.A3 s.el.length s.c3] (by kernel_rfl) (rC en_ast_copyStmts rfl rfl (by kernel_rfl)) (h2 _ _ _ (hs.els.on hM.below) (by omega)) ?_
     rintro ⟨K2_8, A2_8, c2_8, G2_8⟩ a w ⟨hq2_8, hi2_8, hr2_8⟩ hK hM
     replace hM := (Mem.comm hM).to ((.row b2 64 [.int .i64 0, Str [], Str [], .int .i64 0, .slice none 0 0, .slice none 0 0, .slice none 0 0] :: .row b1 64 (cS s) :: ((G2_2 ++ G2_5) ++ G2_8))) (by kernel_rfl)
     refine tX #[true, true, true, true, true, true, true, true, true, true, false, false, false, false, false] (by kernel_rfl) ?_
     refine tM [10] (by kernel_rfl) rfl ⟨?_, trivial⟩
     refine sS hK hM 1 [.int .i64 s.kind, Str s.nm, Str s.loc, .int .i64 s.ord, .slice A2_2 K2_2.length c2_2, .slice s.A2 s.th.length s.c2, .slice s.A3 s.el.length s.c3] (by kernel_rfl) rfl rfl rfl rfl (by kernel_rfl) fun w hM => ?_
     replace hM := hM.to (.row b2 64 [.int .i64 0, Str [], Str [], .int .i64 0, .slice none 0 0, .slice none 0 0, .slice none 0 0] :: .row b1 64 [.int .i64 s.kind, Str s.nm, Str s.loc, .int .i64 s.ord, .slice A2_2 K2_2.length c2_2, .slice s.A2 s.th.length s.c2, .slice s.A3 s.el.length s.c3] :: ((G2_2 ++ G2_5) ++ G2_8)) (by kernel_rfl)
     refine tX #[true, true, true, true, true, true, true, true, true, true, true, false, false, false, false] (by kernel_rfl) ?_
     refine tP hK 11 21 (pA b1 5) (by kernel_rfl) (by kernel_rfl) (by kernel_rfl) (fun w => (by kernel_rfl)) #[true, true, true, true, true, true, true, true, true, true, true, true, false, false, false] (by kernel_rfl) fun a hK => ?_
     refine tM [12] (by kernel_rfl) rfl ⟨?_, trivial⟩
     refine sS hK hM 1 [.int .i64 s.kind, Str s.nm, Str s.loc, .int .i64 s.ord, .slice A2_2 K2_2.length c2_2, .slice A2_5 K2_5.length c2_5, .slice s.A3 s.el.length s.c3] (by kernel_rfl) rfl rfl rfl rfl (by kernel_rfl) fun w hM => ?_
     replace hM := hM.to (.row b2 64 [.int .i64 0, Str [], Str [], .int .i64 0, .slice none 0 0, .slice none 0 0, .slice none 0 0] :: .row b1 64 [.int .i64 s.kind, Str s.nm, Str s.loc, .int .i64 s.ord, .slice A2_2 K2_2.length c2_2, .slice A2_5 K2_5.length c2_5, .slice s.A3 s.el.length s.c3] :: ((G2_2 ++ G2_5) ++ G2_8)) (by kernel_rfl)
     refine tX #[true, true, true, true, true, true, true, true, true, true, true, true, true, false, false] (by kernel_rfl) ?_
     refine tP hK 13 22 (pA b1 6) (by kernel_rfl) (by kernel_rfl) (by kernel_rfl) (fun w => (by kernel_rfl)) #[true, true, true, true, true, true, true, true, true, true, true, true, true, true, false] (by kernel_rfl) fun a hK => ?_
     refine tM [14] (by kernel_rfl) rfl ⟨?_, trivial⟩
     refine sS hK hM 1 [.int .i64 s.kind, Str s.nm, Str s.loc, .int .i64 s.ord, .slice A2_2 K2_2.length c2_2, .slice A2_5 K2_5.length c2_5, .slice A2_8 K2_8.length c2_8] (by kernel_rfl) rfl rfl rfl rfl (by kernel_rfl) fun w hM => ?_
     replace hM := hM.to (.row b2 64 [.int .i64 0, Str [], Str [], .int .i64 0, .slice none 0 0, .slice none 0 0, .slice none 0 0] :: .row b1 64 [.int .i64 s.kind, Str s.nm, Str s.loc, .int .i64 s.ord, .slice A2_2 K2_2.length c2_2, .slice A2_5 K2_5.length c2_5, .slice A2_8 K2_8.length c2_8] :: ((G2_2 ++ G2_5) ++ G2_8)) (by kernel_rfl)
     refine tX #[true, true, true, true, true, true, true, true, true, true, true, true, true, true, true] (by kernel_rfl) ?_
     exact treeE (by kernel_rfl) ⟨A2_2, A2_5, A2_8, G2_2, G2_5, G2_8, K2_2, K2_5, K2_8, c2_2, c2_5, c2_8, hK.sub ⟨rfl, rfl, rfl, trivial⟩, hM, hi2_2, hi2_5, hi2_8, hq2_2, hq2_5, hq2_8, hr2_2, hr2_5, hr2_8⟩
    ·refine sL hK 15 (.slice s.A2 s.th.length s.c2) (by kernel_rfl) rfl rfl ((hM.row 1 rfl).cells 5 1) (by kernel_rfl) fun a hK => ?_
     refine tX #[true, true, false, true, true, false, true, true, false, false, false, false, false, false, false] (by kernel_rfl) ?_
     refine tM [2] (by kernel_rfl) rfl ⟨?_, trivial⟩
     refine sC hK hM 13 #[.slice s.A1 s.es.length s.c1, .func (.func 80) #[] #[]] (by kernel_rfl) (rC en_each_Expr rfl rfl (by kernel_rfl)) (ast_eachE s.es (fun x hx w1 h1 => ast_copyExpr x w1 h1 (exsSh_mem hssh.2.2.1 hx) (by have h8 := exsSz_mem hx; omega)) _ _ _ (hs.exprs.on hM.below) (by omega)) ?_
     rintro ⟨K2_2, A2_2, c2_2, G2_2⟩ a w ⟨hq2_2, hi2_2, hr2_2⟩ hK hM
     replace hM := (Mem.comm hM).to ((.row b2 64 [.int .i64 0, Str [], Str [], .int .i64 0, .slice none 0 0, .slice none 0 0, .slice none 0 0] :: .row b1 64 (cS s) :: G2_2)) (by kernel_rfl)
     refine tX #[true, true, true, true, true, false, true, true, false, false, false, false, false, false, false] (by kernel_rfl) ?_
     refine tP hK 9 20 (pA b1 4) (by kernel_rfl) (by kernel_rfl) (by kernel_rfl) (fun w => (by kernel_rfl)) #[true, true, true, true, true, false, true, true, false, true, false, false, false, false, false] (by kernel_rfl) fun a hK => ?_
     refine tM [5] (by kernel_rfl) rfl ⟨?_, trivial⟩
     refine sC hK hM 16 #[.slice s.A2 s.th.length s.c2] (by kernel_rfl) (rC en_ast_copyStmts rfl rfl (by kernel_rfl)) (h1 _ _ _ (hs.thn.on hM.below) (by omega)) ?_
     rintro ⟨K2_5, A2_5, c2_5, G2_5⟩ a w ⟨hq2_5, hi2_5, hr2_5⟩ hK hM
     replace hM := (Mem.comm hM).to ((.row b2 64 [.int .i64 0, Str [], Str [], .int .i64 0, .slice none 0 0, .slice none 0 0, .slice none 0 0] :: .row b1 64 (cS s) :: (G2_2 ++ G2_5))) (by kernel_rfl)
     refine tX #[true, true, true, true, true, true, true, true, false, true, false, false, false, false, false] (by kernel_rfl) ?_
     refine tM [8] (by kernel_rfl) rfl ⟨?_, trivial⟩
     refine sC hK hM 19 #[.slice s.A3 s.el.length s.c3] (by kernel_rfl) (rC en_ast_copyStmts rfl rfl (by kernel_rfl)) (h2 _ _ _ (hs.els.on hM.below) (by omega)) ?_
     rintro ⟨K2_8, A2_8, c2_8, G2_8⟩ a w ⟨hq2_8, hi2_8, hr2_8⟩ hK hM
     replace hM := (Mem.comm hM).to ((.row b2 64 [.int .i64 0, Str [], Str [], .int .i64 0, .slice none 0 0, .slice none 0 0, .slice none 0 0] :: .row b1 64 (cS s) :: ((G2_2 ++ G2_5) ++ G2_8))) (by kernel_rfl)
     refine tX #[true, true, true, true, true, true, true, true, true, true, false, false, false, false, false] (by kernel_rfl) ?_
     refine tM [10] (by kernel_rfl) rfl ⟨?_, trivial⟩
     refine sS hK hM 1 [.int .i64 s.kind, Str s.nm, Str s.loc, .int .i64 s.ord, .slice A2_2 K2_2.length c2_2, .slice s.A2 s.th.length s.c2, .slice s.A3 s.el.length s.c3] (by kernel_rfl) rfl rfl rfl rfl (by kernel_rfl) fun w hM => ?_
     replace hM := hM.to (.row b2 64 [.int .i64 0, Str [], Str [], .int .i64 0, .slice none 0 0, .slice none 0 0, .slice none 0 0] :: .row b1 64 [.int .i64 s.kind, Str s.nm, Str s.loc, .int .i64 s.ord, .slice A2_2 K2_2.length c2_2, .slice s.A2 s.th.length s.c2, .slice s.A3 s.el.length s.c3] :: ((G2_2 ++ G2_5) ++ G2_8)) (by kernel_rfl)
     refine tX #[true, true, true, true, true, true, true, true, true, true, true, false, false, false, false] (by kernel_rfl) ?_
     refine tP hK 11 21 (pA b1 5) (by kernel_rfl) (by kernel_rfl) (by kernel_rfl) (fun w => (by kernel_rfl)) #[true, true, true, true, true, true, true, true, true, true, true, true, false, false, false] (by kernel_rfl) fun a hK => ?_
     refine tM [12] (by kernel_rfl) rfl ⟨?_, trivial⟩
     refine sS hK hM 1 [.int .i64 s.kind, Str s.nm, Str s.loc, .int .i64 s.ord, .slice A2_2 K2_2.length c2_2, .slice A2_5 K2_5.length c2_5, .slice s.A3 s.el.length s.c3] (by kernel_rfl) rfl rfl rfl rfl (by kernel_rfl) fun w hM => ?_
     replace hM := hM.to (.row b2 64 [.int .i64 0, Str [], Str [], .int .i64 0, .slice none 0 0, .slice none 0 0, .slice none 0 0] :: .row b1 64 [.int .i64 s.kind, Str s.nm, Str s.loc, .int .i64 s.ord, .slice A2_2 K2_2.length c2_2, .slice A2_5 K2_5.length c2_5, .slice s.A3 s.el.length s.c3] :: ((G2_2 ++ G2_5) ++ G2_8)) (by kernel_rfl)
     refine tX #[true, true, true, true, true, true, true, true, true, true, true, true, true, false, false] (by kernel_rfl) ?_
     refine tP hK 13 22 (pA b1 6) (by kernel_rfl) (by kernel_rfl) (by kernel_rfl) (fun w => (by kernel_rfl)) #[true, true, true, true, true, true, true, true, true, true, true, true, true, true, false] (by kernel_rfl) fun a hK => ?_
     refine tM [14] (by kernel_rfl) rfl ⟨?_, trivial⟩
     refine sS hK hM 1 [.int .i64 s.kind, Str s.nm, Str s.loc, .int .i64 s.ord, .slice A2_2 K2_2.length c2_2, .slice A2_5 K2_5.length c2_5, .slice A2_8 K2_8.length c2_8] (by kernel_rfl) rfl rfl rfl rfl (by kernel_rfl) fun w hM => ?_
     replace hM := hM.to (.row b2 64 [.int .i64 0, Str [], Str [], .int .i64 0, .slice none 0 0, .slice none 0 0, .slice none 0 0] :: .row b1 64 [.int .i64 s.kind, Str s.nm, Str s.loc, .int .i64 s.ord, .slice A2_2 K2_2.length c2_2, .slice A2_5 K2_5.length c2_5, .slice A2_8 K2_8.length c2_8] :: ((G2_2 ++ G2_5) ++ G2_8)) (by kernel_rfl)
     refine tX #[true, true, true, true, true, true, true, true, true, true, true, true, true, true, true] (by kernel_rfl) ?_
     exact treeE (by kernel_rfl) ⟨A2_2, A2_5, A2_8, G2_2, G2_5, G2_8, K2_2, K2_5, K2_8, c2_2, c2_5, c2_8, hK.sub ⟨rfl, rfl, rfl, trivial⟩, hM, hi2_2, hi2_5, hi2_8, hq2_2, hq2_5, hq2_8, hr2_2, hr2_5, hr2_8⟩
  ·refine sL hK 15 (.slice s.A2 s.th.length s.c2) (by kernel_rfl) rfl rfl ((hM.row 1 rfl).cells 5 1) (by kernel_rfl) fun a hK => ?_
   refine tX #[true, false, false, true, true, false, true, false, false, false, false, false, false, false, false] (by kernel_rfl) ?_
   refine tM [1, 7] (by kernel_rfl) rfl ⟨?_, ?_, trivial⟩
   ·refine sL hK 12 (.slice s.A1 s.es.length s.c1) (by kernel_rfl) rfl rfl ((hM.row 1 rfl).cells 4 1) (by kernel_rfl) fun a hK => ?_
    refine tX #[true, true, false, true, true, false, true, false, false, false, false, false, false, false, false] (by kernel_rfl) ?_
    refine tM [2, 7] (by kernel_rfl) rfl ⟨?_, ?_, trivial⟩
    ·refine sC hK hM 13 #[.slice s.A1 s.es.length s.c1, .func (.func 80) #[] #[]] (by kernel_rfl) (rC en_each_Expr rfl rfl (by kernel_rfl)) (ast_eachE s.es (fun x hx w1 h1 => ast_copyExpr x w1 h1 (exsSh_mem hssh.2.2.1 hx) (by have h8 := exsSz_mem hx; omega)) _ _ _ (hs.exprs.on hM.below) (by omega)) ?_
     rintro ⟨K2_2, A2_2, c2_2, G2_2⟩ a w ⟨hq2_2, hi2_2, hr2_2⟩ hK hM
     replace hM := (Mem.comm hM).to ((.row b2 64 [.int .i64 0, Str [], Str [], .int .i64 0, .slice none 0 0, .slice none 0 0, .slice none 0 0] :: .row b1 64 (cS s) :: G2_2)) (by kernel_rfl)
     refine tX #[true, true, true, true, true, false, true, false, false, false, false, false, false, false, false] (by kernel_rfl) ?_
     refine tM [5, 7] (by kernel_rfl) rfl ⟨?_, ?_, trivial⟩
     ·refine sC hK hM 16 #[.slice s.A2 s.th.length s.c2] (by kernel_rfl) (rC en_ast_copyStmts rfl rfl (by kernel_rfl)) (h1 _ _ _ (hs.thn.on hM.below) (by omega)) ?_
      rintro ⟨K2_5, A2_5, c2_5, G2_5⟩ a w ⟨hq2_5, hi2_5, hr2_5⟩ hK hM
      replace hM := (Mem.comm hM).to ((.row b2 64 [.int .i64 0, Str [], Str [], .int .i64 0, .slice none 0 0, .slice none 0 0, .slice none 0 0] :: .row b1 64 (cS s) :: (G2_2 ++ G2_5))) (by kernel_rfl)
      refine tX #[true, true, true, true, true, true, true, false, false, false, false, false, false, false, false] (by kernel_rfl) ?_
      refine tM [7] (by kernel_rfl) rfl ⟨?_, trivial⟩
      refine sL hK 18 (.slice s.A3 s.el.length s.c3) (by kernel_rfl) rfl rfl ((hM.row 1 rfl).cells 6 1) (by kernel_rfl) fun a hK => ?_
      refine tX #[true, true, true, true, true, true, true, true, false, false, false, false, false, false, false] (by kernel_rfl) ?_
      refine tP hK 9 20 (pA b1 4) (by kernel_rfl) (by kernel_rfl) (by kernel_rfl) (fun w => (by kernel_rfl)) #[true, true, true, true, true, true, true, true, false, true, false, false, false, false, false] (by kernel_rfl) fun a hK => ?_
      refine tM [8] (by kernel_rfl) rfl ⟨?_, trivial⟩
      refine sC hK hM 19 #[.slice s.A3 s.el.length s.c3] (by kernel_rfl) (rC en_ast_copyStmts rfl rfl (by kernel_rfl)) (h2 _ _ _ (hs.els.on hM.below) (by omega)) ?_
      rintro ⟨K2_8, A2_8, c2_8, G2_8⟩ a w ⟨hq2_8, hi2_8, hr2_8⟩ hK hM
      replace hM := (Mem.comm hM).to ((.row b2 64 [.int .i64 0, Str [], Str [], .int .i64 0, .slice none 0 0, .slice none 0 0, .slice none 0 0] :: .row b1 64 (cS s) :: ((G2_2 ++ G2_5) ++ G2_8))) (by kernel_rfl)
      refine tX #[true, true, true, true, true, true, true, true, true, true, false, false, false, false, false] (by kernel_rfl) ?_
      refine tM [10] (by kernel_rfl) rfl ⟨?_, trivial⟩
      refine sS hK hM 1 [.int .i64 s.kind, Str s.nm, Str s.loc, .int .i64 s.ord, .slice A2_2 K2_2.length c2_2, .slice s.A2 s.th.length s.c2, .slice s.A3 s.el.length s.c3] (by kernel_rfl) rfl rfl rfl rfl (by kernel_rfl) fun w hM => ?_
      replace hM := hM.to (.row b2 64 [.int .i64 0, Str [], Str [], .int .i64 0, .slice none 0 0, .slice none 0 0, .slice none 0 0] :: .row b1 64 [.int .i64 s.kind, Str s.nm, Str s.loc, .int .i64 s.ord, .slice A2_2 K2_2.length c2_2, .slice s.A2 s.th.length s.c2, .slice s.A3 s.el.length s.c3] :: ((G2_2 ++ G2_5) ++ G2_8)) (by kernel_rfl)
      refine tX #[true, true, true, true, true, true, true, true, true, true, true, false, false, false, false] (by kernel_rfl) ?_
      refine tP hK 11 21 (pA b1 5) (by kernel_rfl) (by kernel_rfl) (by kernel_rfl) (fun w => (by kernel_rfl)) #[true, true, true, true, true, true, true, true, true, true, true, true, false, false, false] (by kernel_rfl) fun a hK => ?_
      refine tM [12] (by kernel_rfl) rfl ⟨?_, trivial⟩
      refine sS hK hM 1 [.int .i64 s.kind, Str s.nm, Str s.loc, .int .i64 s.ord, .slice A2_2 K2_2.length c2_2, .slice A2_5 K2_5.length c2_5, .slice s.A3 s.el.length s.c3] (by kernel_rfl) rfl rfl rfl rfl (by kernel_rfl) fun w hM => ?_
      replace hM := hM.to (.row b2 64 [.int .i64 0, Str [], Str [], .int .i64 0, .slice none 0 0, .slice none 0 0, .slice none 0 0] :: .row b1 64 [.int .i64 s.kind, Str s.nm, Str s.loc, .int .i64 s.ord, .slice A2_2 K2_2.length c2_2, .slice A2_5 K2_5.length c2_5, .slice s.A3 s.el.length s.c3] :: ((G2_2 ++ G2_5) ++ G2_8)) (by kernel_rfl)
      refine tX #[true, true, true, true, true, true, true, true, true, true, true, true, true, false, false] (by kernel_rfl) ?_
      refine tP hK 13 22 (pA b1 6) (by kernel_rfl) (by kernel_rfl) (by kernel_rfl) (fun w => (by kernel_rfl)) #[true, true, true, true, true, true, true, true, true, true, true, true, true, true, false] (by kernel_rfl) fun a hK => ?_
      refine tM [14] (by kernel_rfl) rfl ⟨?_, trivial⟩
      refine sS hK hM 1 [.int .i64 s.kind, Str s.nm, Str s.loc, .int .i64 s.ord, .slice A2_2 K2_2.length c2_2, .slice A2_5 K2_5.length c2_5, .slice A2_8 K2_8.length c2_8] (by kernel_rfl) rfl rfl rfl rfl (by kernel_rfl) fun w hM => ?_
      replace hM := hM.to (.row b2 64 [.int .i64 0, Str [], Str [], .int .i64 0, .slice none 0 0, .slice none 0 0, .slice none 0 0] :: .row b1 64 [.int .i64 s.kind, Str s.nm, Str s.loc, .int .i64 s.ord, .slice A2_2 K2_2.length c2_2, .slice A2_5 K2_5.length c2_5, .slice A2_8 K2_8.length c2_8] :: ((G2_2 ++ G2_5) ++ G2_8)) (by kernel_rfl)
      refine tX #[true, true, true, true, true, true, true, true, true, true, true, true, true, true, true] (by kernel_rfl) ?_
      exact treeE (by kernel_rfl) ⟨A2_2, A2_5, A2_8, G2_2, G2_5, G2_8, K2_2, K2_5, K2_8, c2_2, c2_5, c2_8, hK.sub ⟨rfl, rfl, rfl, trivial⟩, hM, hi2_2, hi2_5, hi2_8, hq2_2, hq2_5, hq2_8, hr2_2, hr2_5, hr2_8⟩
     ·refine sL hK 18 (.slice s.A3 s.el.length s.c3) (by kernel_rfl) rfl rfl ((hM.row 1 rfl).cells 6 1) (by kernel_rfl) fun a hK => ?_
      refine tX #[true, true, true, true, true, false, true, true, false, false, false, false, false, false, false] (by kernel_rfl) ?_
      refine tP hK 9 20 (pA b1 4) (by kernel_rfl) (by kernel_rfl) (by kernel_rfl) (fun w => (by kernel_rfl)) #[true, true, true, true, true, false, true, true, false, true, false, false, false, false, false] (by kernel_rfl) fun a hK => ?_
      refine tM [5] (by kernel_rfl) rfl ⟨?_, trivial⟩
      refine sC hK hM 16 #[.slice s.A2 s.th.length s.c2] (by kernel_rfl) (rC en_ast_copyStmts rfl rfl (by kernel_rfl)) (h1 _ _ _ (hs.thn.on hM.below) (by omega)) ?_
      rintro ⟨K2_5, A2_5, c2_5, G2_5⟩ a w ⟨hq2_5, hi2_5, hr2_5⟩ hK hM
      replace hM := (Mem.comm hM).to ((.row b2 64 [.int .i64 0, Str [], Str [], .int .i64 0, .slice none 0 0, .slice none 0 0, .slice none 0 0] :: .row b1 64 (cS s) :: (G2_2 ++ G2_5))) (by kernel_rfl)
      refine tX #[true, true, true, true, true, true, true, true, false, true, false, false, false, false, false] (by kernel_rfl) ?_
      refine tM [8] (by kernel_rfl) rfl ⟨?_, trivial⟩
      refine sC hK hM 19 #[.slice s.A3 s.el.length s.c3] (by kernel_rfl) (rC en_ast_copyStmts rfl rfl (by kernel_rfl)) (h2 _ _ _ (hs.els.on hM.below) (by omega)) ?_
      rintro ⟨K2_8, A2_8, c2_8, G2_8⟩ a w ⟨hq2_8, hi2_8, hr2_8⟩ hK hM
      replace hM := (Mem.comm hM).to ((.row b2 64 [.int .i64 0, Str [], Str [], .int .i64 0, .slice none 0 0, .slice none 0 0, .slice none 0 0] :: .row b1 64 (cS s) :: ((G2_2 ++ G2_5) ++ G2_8))) (by kernel_rfl)
      refine tX #[true, true, true, true, true, true, true, true, true, true, false, false, false, false, false] (by kernel_rfl) ?_
      refine tM [10] (by kernel_rfl) rfl ⟨?_, trivial⟩
      refine sS hK hM 1 [.int .i64 s.kind, Str s.nm, Str s.loc, .int .i64 s.ord, .slice A2_2 K2_2.length c2_2, .slice s.A2 s.th.length s.c2, .slice s.A3 s.el.length s.c3] (by kernel_rfl) rfl rfl rfl rfl (by kernel_rfl) fun w hM => ?_
      replace hM := hM.to (.row b2 64 [.int .i64 0, Str [], Str [], .int .i64 0, .slice none 0 0, .slice none 0 0, .slice none 0 0] :: .row b1 64 [.int .i64 s.kind, Str s.nm, Str s.loc, .int .i64 s.ord, .slice A2_2 K2_2.length c2_2, .slice s.A2 s.th.length s.c2, .slice s.A3 s.el.length s.c3] :: ((G2_2 ++ G2_5) ++ G2_8)) (by kernel_rfl)
      refine tX #[true, true, true, true, true, true, true, true, true, true, true, false, false, false, false] (by kernel_rfl) ?_
      refine tP hK 11 21 (pA b1 5) (by kernel_rfl) (by kernel_rfl) (by kernel_rfl) (fun w => (by kernel_rfl)) #[true, true, true, true, true, true, true, true, true, true, true, true, false, false, false] (by kernel_rfl) fun a hK => ?_
      refine tM [12] (by kernel_rfl) rfl ⟨?_, trivial⟩
      refine sS hK hM 1 [.int .i64 s.kind, Str s.nm, Str s.loc, .int .i64 s.ord, .slice A2_2 K2_2.length c2_2, .slice A2_5 K2_5.length c2_5, .slice s.A3 s.el.length s.c3] (by kernel_rfl) rfl rfl rfl rfl (by kernel_rfl) fun w hM => ?_
      replace hM := hM.to (.row b2 64 [.int .i64 0, Str [], Str [], .int .i64 0, .slice none 0 0, .slice none 0 0, .slice none 0 0] :: .row b1 64 [.int .i64 s.kind, Str s.nm, Str s.loc, .int .i64 s.ord, .slice A2_2 K2_2.length c2_2, .slice A2_5 K2_5.length c2_5, .slice s.A3 s.el.length s.c3] :: ((G2_2 ++ G2_5) ++ G2_8)) (by kernel_rfl)
      refine tX #[true, true, true, true, true, true, true, true, true, true, true, true, true, false, false] (by kernel_rfl) ?_
      refine tP hK 13 22 (pA b1 6) (by kernel_rfl) (by kernel_rfl) (by kernel_rfl) (fun w => (by kernel_rfl)) #[true, true, true, true, true, true, true, true, true, true, true, true, true, true, false] (by kernel_rfl) fun a hK => ?_
      refine tM [14] (by kernel_rfl) rfl ⟨?_, trivial⟩
      refine sS hK hM 1 [.int .i64 s.kind, Str s.nm, Str s.loc, .int .i64 s.ord, .slice A2_2 K2_2.length c2_2, .slice A2_5 K2_5.length c2_5, .slice A2_8 K2_8.length c2_8] (by kernel_rfl) rfl rfl rfl rfl (by kernel_rfl) fun w hM => ?_
      replace hM := hM.to (.row b2 64 [.int .i64 0, Str [], Str [], .int .i64 0, .slice none 0 0, .slice none 0 0, .slice none 0 0] :: .row b1 64 [.int .i64 s.kind, Str s.nm, Str s.loc, .int .i64 s.ord, .slice A2_2 K2_2.length c2_2, .slice A2_5 K2_5.length c2_5, .slice A2_8 K2_8.length c2_8] :: ((G2_2 ++ G2_5) ++ G2_8)) (by kernel_rfl)
      refine tX #[true, true, true, true, true, true, true, true, true, true, true, true, true, true, true] (by kernel_rfl) ?_
      exact treeE (by kernel_rfl) ⟨A2_2, A2_5, A2_8, G2_2, G2_5, G2_8, K2_2, K2_5, K2_8, c2_2, c2_5, c2_8, hK.sub ⟨rfl, rfl, rfl, trivial⟩, hM, hi2_2, hi2_5, hi2_8, hq2_2, hq2_5, hq2_8, hr2_2, hr2_5, hr2_8⟩
    ·refine sL hK 18 (.slice s.A3 s.el.length s.c3) (by kernel_rfl) rfl rfl ((hM.row 1 rfl).cells 6 1) (by kernel_rfl) fun a hK => ?_
     refine tX #[true, true, false, true, true, false, true, true, false, false, false, false, false, false, false] (by kernel_rfl) ?_
     refine tM [2] (by kernel_rfl) rfl ⟨?_, trivial⟩
     refine sC hK hM 13 #[.slice s.A1 s.es.length s.c1, .func (.func 80) #[] #[]] (by kernel_rfl) (rC en_each_Expr rfl rfl (by kernel_rfl)) (ast_eachE s.es (fun x hx w1 h1 => ast_copyExpr x w1 h1 (exsSh_mem hssh.2.2.1 hx) (by have h8 := exsSz_mem hx; omega)) _ _ _ (hs.exprs.on hM.below) (by omega)) ?_
     rintro ⟨K2_2, A2_2, c2_2, G2_2⟩ a w ⟨hq2_2, hi2_2, hr2_2⟩ hK hM
     replace hM := (Mem.comm hM).to ((.row b2 64 [.int .i64 0, Str [], Str [], .int .i64 0, .slice none 0 0, .slice none 0 0, .slice none 0 0] :: .row b1 64 (cS s) :: G2_2)) (by kernel_rfl)
     refine tX #[true, true, true, true, true, false, true, true, false, false, false, false, false, false, false] (by kernel_rfl) ?_
     refine tP hK 9 20 (pA b1 4) (by kernel_rfl) (by kernel_rfl) (by kernel_rfl) (fun w => (by kernel_rfl)) #[true, true, true, true, true, false, true, true, false, true, false, false, false, false, false] (by kernel_rfl) fun a hK => ?_
     refine tM [5] (by kernel_rfl) rfl ⟨?_, trivial⟩
     refine sC hK hM 16 #[.slice s.A2 s.th.length s.c2] (by kernel_rfl) (rC en_ast_copyStmts rfl rfl (by kernel_rfl)) (h1 _ _ _ (hs.thn.on hM.below) (by omega)) ?_
     rintro ⟨K2_5, A2_5, c2_5, G2_5⟩ a w ⟨hq2_5, hi2_5, hr2_5⟩ hK hM
     replace hM := (Mem.comm hM).to ((.row b2 64 [.int .i64 0, Str [], Str [], .int .i64 0, .slice none 0 0, .slice none 0 0, .slice none 0 0] :: .row b1 64 (cS s) :: (G2_2 ++ G2_5))) (by kernel_rfl)
     refine tX #[true, true, true, true, true, true, true, true, false, true, false, false, false, false, false] (by kernel_rfl) ?_
     refine tM [8] (by kernel_rfl) rfl ⟨?_, trivial⟩
     refine sC hK hM 19 #[.slice s.A3 s.el.length s.c3] (by kernel_rfl) (rC en_ast_copyStmts rfl rfl (by kernel_rfl)) (h2 _ _ _ (hs.els.on hM.below) (by omega)) ?_
     rintro ⟨K2_8, A2_8, c2_8, G2_8⟩ a w ⟨hq2_8, hi2_8, hr2_8⟩ hK hM
     replace hM := (Mem.comm hM).to ((.row b2 64 [.int .i64 0, Str [], Str [], .int .i64 0, .slice none 0 0, .slice none 0 0, .slice none 0 0] :: .row b1 64 (cS s) :: ((G2_2 ++ G2_5) ++ G2_8))) (by kernel_rfl)
     refine tX #[true, true, true, true, true, true, true, true, true, true, false, false, false, false, false] (by kernel_rfl) ?_
     refine tM [10] (by kernel_rfl) rfl ⟨?_, trivial⟩
     refine sS hK hM 1 [.int .i64 s.kind, Str s.nm, Str s.loc, .int .i64 s.ord, .slice A2_2 K2_2.length c2_2, .slice s.A2 s.th.length s.c2, .slice s.A3 s.el.length s.c3] (by kernel_rfl) rfl rfl rfl rfl (by kernel_rfl) fun w hM => ?_
     replace hM := hM.to (.row b2 64 [.int .i64 0, Str [], Str [], .int .i64 0, .slice none 0 0, .slice none 0 0, .slice none 0 0] :: .row b1 64 [.int .i64 s.kind, Str s.nm, Str s.loc, .int .i64 s.ord, .slice A2_2 K2_2.length c2_2, .slice s.A2 s.th.length s.c2, .slice s.A3 s.el.length s.c3] :: ((G2_2 ++ G2_5) ++ G2_8)) (by kernel_rfl)
     refine tX #[true, true, true, true, true, true, true, true, true, true, true, false, false, false, false] (by kernel_rfl) ?_
     refine tP hK 11 21 (pA b1 5) (by kernel_rfl) (by kernel_rfl) (by kernel_rfl) (fun w => (by kernel_rfl)) #[true, true, true, true, true, true, true, true, true, true, true, true, false, false, false] (by kernel_rfl) fun a hK => ?_
     refine tM [12] (by kernel_rfl) rfl ⟨?_, trivial⟩
     refine sS hK hM 1 [.int .i64 s.kind, Str s.nm, Str s.loc, .int .i64 s.ord, .slice A2_2 K2_2.length c2_2, .slice A2_5 K2_5.length c2_5, .slice s.A3 s.el.length s.c3] (by kernel_rfl) rfl rfl rfl rfl (by kernel_rfl) fun w hM => ?_
     replace hM := hM.to (.row b2 64 [.int .i64 0, Str [], Str [], .int .i64 0, .slice none 0 0, .slice none 0 0, .slice none 0 0] :: .row b1 64 [.int .i64 s.kind, Str s.nm, Str s.loc, .int .i64 s.ord, .slice A2_2 K2_2.length c2_2, .slice A2_5 K2_5.length c2_5, .slice s.A3 s.el.length s.c3] :: ((G2_2 ++ G2_5) ++ G2_8)) (by kernel_rfl)
     refine tX #[true, true, true, true, true, true, true, true, true, true, true, true, true, false, false] (by kernel_rfl) ?_
     refine tP hK 13 22 (pA b1 6) (by kernel_rfl) (by kernel_rfl) (by kernel_rfl) (fun w => (by kernel_rfl)) #[true, true, true, true, true, true, true, true, true, true, true, true, true, true, false] (by kernel_rfl) fun a hK => ?_
     refine tM [14] (by kernel_rfl) rfl ⟨?_, trivial⟩
     refine sS hK hM 1 [.int .i64 s.kind, Str s.nm, Str s.loc, .int .i64 s.ord, .slice A2_2 K2_2.length c2_2, .slice A2_5 K2_5.length c2_5, .slice A2_8 K2_8.length c2_8] (by kernel_rfl) rfl rfl rfl rfl (by kernel_rfl) fun w hM => ?_
     replace hM := hM.to (.row b2 64 [.int .i64 0, Str [], Str [], .int .i64 0, .slice none 0 0, .slice none 0 0, .slice none 0 0] :: .row b1 64 [.int .i64 s.kind, Str s.nm, Str s.loc, .int .i64 s.ord, .slice A2_2 K2_2.length c2_2, .slice A2_5 K2_5.length c2_5, .slice A2_8 K2_8.length c2_8] :: ((G2_2 ++ G2_5) ++ G2_8)) (by kernel_rfl)
     refine tX #[true, true, true, true, true, true, true, true, true, true, true, true, true, true, true] (by kernel_rfl) ?_
     exact treeE (by kernel_rfl) ⟨A2_2, A2_5, A2_8, G2_2, G2_5, G2_8, K2_2, K2_5, K2_8, c2_2, c2_5, c2_8, hK.sub ⟨rfl, rfl, rfl, trivial⟩, hM, hi2_2, hi2_5, hi2_8, hq2_2, hq2_5, hq2_8, hr2_2, hr2_5, hr2_8⟩
   ·refine sL hK 18 (.slice s.A3 s.el.length s.c3) (by kernel_rfl) rfl rfl ((hM.row 1 rfl).cells 6 1) (by kernel_rfl) fun a hK => ?_
    refine tX #[true, false, false, true, true, false, true, true, false, false, false, false, false, false, false] (by kernel_rfl) ?_
    refine tM [1] (by kernel_rfl) rfl ⟨?_, trivial⟩
    refine sL hK 12 (.slice s.A1 s.es.length s.c1) (by kernel_rfl) rfl rfl ((hM.row 1 rfl).cells 4 1) (by kernel_rfl) fun a hK => ?_
    refine tX #[true, true, false, true, true, false, true, true, false, false, false, false, false, false, false] (by kernel_rfl) ?_
    refine tM [2] (by kernel_rfl) rfl ⟨?_, trivial⟩
    refine sC hK hM 13 #[.slice s.A1 s.es.length s.c1, .func (.func 80) #[] #[]] (by kernel_rfl) (rC en_each_Expr rfl rfl (by kernel_rfl)) (ast_eachE s.es (fun x hx w1 h1 => ast_copyExpr x w1 h1 (exsSh_mem hssh.2.2.1 hx) (by have h8 := exsSz_mem hx; omega)) _ _ _ (hs.exprs.on hM.below) (by omega)) ?_
    rintro ⟨K2_2, A2_2, c2_2, G2_2⟩ a w ⟨hq2_2, hi2_2, hr2_2⟩ hK hM
    replace hM := (Mem.comm hM).to ((.row b2 64 [.int .i64 0, Str [], Str [], .int .i64 0, .slice none 0 0, .slice none 0 0, .slice none 0 0] :: .row b1 64 (cS s) :: G2_2)) (by kernel_rfl)
    refine tX #[true, true, true, true, true, false, true, true, false, false, false, false, false, false, false] (by kernel_rfl) ?_
    refine tP hK 9 20 (pA b1 4) (by kernel_rfl) (by kernel_rfl) (by kernel_rfl) (fun w => (by kernel_rfl)) #[true, true, true, true, true, false, true, true, false, true, false, false, false, false, false] (by kernel_rfl) fun a hK => ?_
    refine tM [5] (by kernel_rfl) rfl ⟨?_, trivial⟩
    refine sC hK hM 16 #[.slice s.A2 s.th.length s.c2] (by kernel_rfl) (rC en_ast_copyStmts rfl rfl (by kernel_rfl)) (h1 _ _ _ (hs.thn.on hM.below) (by omega)) ?_
    rintro ⟨K2_5, A2_5, c2_5, G2_5⟩ a w ⟨hq2_5, hi2_5, hr2_5⟩ hK hM
    replace hM := (Mem.comm hM).to ((.row b2 64 [.int .i64 0, Str [], Str [], .int .i64 0, .slice none 0 0, .slice none 0 0, .slice none 0 0] :: .row b1 64 (cS s) :: (G2_2 ++ G2_5))) (by kernel_rfl)
    refine tX #[true, true, true, true, true, true, true, true, false, true, false, false, false, false, false] (by kernel_rfl) ?_
    refine tM [8] (by kernel_rfl) rfl ⟨?_, trivial⟩
    refine sC hK hM 19 #[.slice s.A3 s.el.length s.c3] (by kernel_rfl) (rC en_ast_copyStmts rfl rfl (by kernel_rfl)) (h2 _ _ _ (hs.els.on hM.below) (by omega)) ?_
    rintro ⟨K2_8, A2_8, c2_8, G2_8⟩ a w ⟨hq2_8, hi2_8, hr2_8⟩ hK hM
    replace hM := (Mem.comm hM).to ((.row b2 64 [.int .i64 0, Str [], Str [], .int .i64 0, .slice none 0 0, .slice none 0 0, .slice none 0 0] :: .row b1 64 (cS s) :: ((G2_2 ++ G2_5) ++ G2_8))) (by kernel_rfl)
    refine tX #[true, true, true, true, true, true, true, true, true, true, false, false, false, false, false] (by kernel_rfl) ?_
    refine tM [10] (by kernel_rfl) rfl ⟨?_, trivial⟩
    refine sS hK hM 1 [.int .i64 s.kind, Str s.nm, Str s.loc, .int .i64 s.ord, .slice A2_2 K2_2.length c2_2, .slice s.A2 s.th.length s.c2, .slice s.A3 s.el.length s.c3] (by kernel_rfl) rfl rfl rfl rfl (by kernel_rfl) fun w hM => ?_
    replace hM := hM.to (.row b2 64 [.int .i64 0, Str [], Str [], .int .i64 0, .slice none 0 0, .slice none 0 0, .slice none 0 0] :: .row b1 64 [.int .i64 s.kind, Str s.nm, Str s.loc, .int .i64 s.ord, .slice A2_2 K2_2.length c2_2, .slice s.A2 s.th.length s.c2, .slice s.A3 s.el.length s.c3] :: ((G2_2 ++ G2_5) ++ G2_8)) (by kernel_rfl)
    refine tX #[true, true, true, true, true, true, true, true, true, true, true, false, false, false, false] (by kernel_rfl) ?_
    refine tP hK 11 21 (pA b1 5) (by kernel_rfl) (by kernel_rfl) (by kernel_rfl) (fun w => (by kernel_rfl)) #[true, true, true, true, true, true, true, true, true, true, true, true, false, false, false] (by kernel_rfl) fun a hK => ?_
    refine tM [12] (by kernel_rfl) rfl ⟨?_, trivial⟩
    refine sS hK hM 1 [.int .i64 s.kind, Str s.nm, Str s.loc, .int .i64 s.ord, .slice A2_2 K2_2.length c2_2, .slice A2_5 K2_5.length c2_5, .slice s.A3 s.el.length s.c3] (by kernel_rfl) rfl rfl rfl rfl (by kernel_rfl) fun w hM => ?_
    replace hM := hM.to (.row b2 64 [.int .i64 0, Str [], Str [], .int .i64 0, .slice none 0 0, .slice none 0 0, .slice none 0 0] :: .row b1 64 [.int .i64 s.kind, Str s.nm, Str s.loc, .int .i64 s.ord, .slice A2_2 K2_2.length c2_2, .slice A2_5 K2_5.length c2_5, .slice s.A3 s.el.length s.c3] :: ((G2_2 ++ G2_5) ++ G2_8)) (by kernel_rfl)
    refine tX #[true, true, true, true, true, true, true, true, true, true, true, true, true, false, false] (by kernel_rfl) ?_
    refine tP hK 13 22 (pA b1 6) (by kernel_rfl) (by kernel_rfl) (by kernel_rfl) (fun w => (by kernel_rfl)) #[true, true, true, true, true, true, true, true, true, true, true, true, true, true, false] (by kernel_rfl) fun a hK => ?_
    refine tM [14] (by kernel_rfl) rfl ⟨?_, trivial⟩
    refine sS hK hM 1 [.int .i64 s.kind, Str s.nm, Str s.loc, .int .i64 s.ord, .slice A2_2 K2_2.length c2_2, .slice A2_5 K2_5.length c2_5, .slice A2_8 K2_8.length c2_8] (by kernel_rfl) rfl rfl rfl rfl (by kernel_rfl) fun w hM => ?_
    replace hM := hM.to (.row b2 64 [.int .i64 0, Str [], Str [], .int .i64 0, .slice none 0 0, .slice none 0 0, .slice none 0 0] :: .row b1 64 [.int .i64 s.kind, Str s.nm, Str s.loc, .int .i64 s.ord, .slice A2_2 K2_2.length c2_2, .slice A2_5 K2_5.length c2_5, .slice A2_8 K2_8.length c2_8] :: ((G2_2 ++ G2_5) ++ G2_8)) (by kernel_rfl)
    refine tX #[true, true, true, true, true, true, true, true, true, true, true, true, true, true, true] (by kernel_rfl) ?_
    exact treeE (by kernel_rfl) ⟨A2_2, A2_5, A2_8, G2_2, G2_5, G2_8, K2_2, K2_5, K2_8, c2_2, c2_5, c2_8, hK.sub ⟨rfl, rfl, rfl, trivial⟩, hM, hi2_2, hi2_5, hi2_8, hq2_2, hq2_5, hq2_8, hr2_2, hr2_5, hr2_8⟩
  ·refine sL hK 18 (.slice s.A3 s.el.length s.c3) (by kernel_rfl) rfl rfl ((hM.row 1 rfl).cells 6 1) (by kernel_rfl) fun a hK => ?_
   refine tX #[true, false, false, true, false, false, true, true, false, false, false, false, false, false, false] (by kernel_rfl) ?_
   refine tM [1, 4] (by kernel_rfl) rfl ⟨?_, ?_, trivial⟩
   ·refine sL hK 12 (.slice s.A1 s.es.length s.c1) (by kernel_rfl) rfl rfl ((hM.row 1 rfl).cells 4 1) (by kernel_rfl) fun a hK => ?_
    refine tX #[true, true, false, true, false, false, true, true, false, false, false, false, false, false, false] (by kernel_rfl) ?_
    refine tM [2, 4] (by kernel_rfl) rfl ⟨?_, ?_, trivial⟩
    ·refine sC hK hM 13 #[.slice s.A1 s.es.length s.c1, .func (.func 80) #[] #[]] (by kernel_rfl) (rC en_each_Expr rfl rfl (by kernel_rfl)) (ast_eachE s.es (fun x hx w1 h1 => ast_copyExpr x w1 h1 (exsSh_mem hssh.2.2.1 hx) (by have h8 := exsSz_mem hx; omega)) _ _ _ (hs.exprs.on hM.below) (by omega)) ?_
     rintro ⟨K2_2, A2_2, c2_2, G2_2⟩ a w ⟨hq2_2, hi2_2, hr2_2⟩ hK hM
     replace hM := (Mem.comm hM).to ((.row b2 64 [.int .i64 0, Str [], Str [], .int .i64 0, .slice none 0 0, .slice none 0 0, .slice none 0 0] :: .row b1 64 (cS s) :: G2_2)) (by kernel_rfl)
     refine tX #[true, true, true, true, false, false, true, true, false, false, false, false, false, false, false] (by kernel_rfl) ?_
     refine tM [4] (by kernel_rfl) rfl ⟨?_, trivial⟩
     refine sL hK 15 (.slice s.A2 s.th.length s.c2) (by kernel_rfl) rfl rfl ((hM.row 1 rfl).cells 5 1) (by kernel_rfl) fun a hK => ?_
     refine tX #[true, true, true, true, true, false, true, true, false, false, false, false, false, false, false] (by kernel_rfl) ?_
     refine tP hK 9 20 (pA b1 4) (by kernel_rfl) (by kernel_rfl) (by kernel_rfl) (fun w => (by kernel_rfl)) #[true, true, true, true, true, false, true, true, false, true, false, false, false, false, false] (by kernel_rfl) fun a hK => ?_
     refine tM [5] (by kernel_rfl) rfl ⟨?_, trivial⟩
     refine sC hK hM 16 #[.slice s.A2 s.th.length s.c2] (by kernel_rfl) (rC en_ast_copyStmts rfl rfl (by kernel_rfl)) (h1 _ _ _ (hs.thn.on hM.below) (by omega)) ?_
     rintro ⟨K2_5, A2_5, c2_5, G2_5⟩ a w ⟨hq2_5, hi2_5, hr2_5⟩ hK hM
     replace hM := (Mem.comm hM).to ((.row b2 64 [.int .i64 0, Str [], Str [], .int .i64 0, .slice none 0 0, .slice none 0 0, .slice none 0 0] :: .row b1 64 (cS s) :: (G2_2 ++ G2_5))) (by kernel_rfl)
     refine tX #[true, true, true, true, true, true, true, true, false, true, false, false, false, false, false] (by kernel_rfl) ?_
     refine tM [8] (by kernel_rfl) rfl ⟨?_, trivial⟩
     refine sC hK hM 19 #[.slice s.A3 s.el.length s.c3] (by kernel_rfl) (rC en_ast_copyStmts rfl rfl (by kernel_rfl)) (h2 _ _ _ (hs.els.on hM.below) (by omega)) ?_
     rintro ⟨K2_8, A2_8, c2_8, G2_8⟩ a w ⟨hq2_8, hi2_8, hr2_8⟩ hK hM
     replace hM := (Mem.comm hM).to ((.row b2 64 [.int .i64 0, Str [], Str [], .int .i64 0, .slice none 0 0, .slice none 0 0, .slice none 0 0] :: .row b1 64 (cS s) :: ((G2_2 ++ G2_5) ++ G2_8))) (by kernel_rfl)
     refine tX #[true, true, true, true, true, true, true, true, true, true, false, false, false, false, false] (by kernel_rfl) ?_
     refine tM [10] (by kernel_rfl) rfl ⟨?_, trivial⟩
     refine sS hK hM 1 [.int .i64 s.kind, Str s.nm, Str s.loc, .int .i64 s.ord, .slice A2_2 K2_2.length c2_2, .slice s.A2 s.th.length s.c2, .slice s.A3 s.el.length s.c3] (by kernel_rfl) rfl rfl rfl rfl (by kernel_rfl) fun w hM => ?_
     replace hM := hM.to (.row b2 64 [.int .i64 0, Str [], Str [], .int .i64 0, .slice none 0 0, .slice none 0 0, .slice none 0 0] :: .row b1 64 [.int .i64 s.kind, Str s.nm, Str s.loc, .int .i64 s.ord, .slice A2_2 K2_2.length c2_2, .slice s.A2 s.th.length s.c2, .slice s.A3 s.el.length s.c3] :: ((G2_2 ++ G2_5) ++ G2_8)) (by kernel_rfl)
     refine tX #[true, true, true, true, true, true, true, true, true, true, true, false, false, false, false] (by kernel_rfl) ?_
     refine tP hK 11 21 (pA b1 5) (by kernel_rfl) (by kernel_rfl) (by kernel_rfl) (fun w => (by kernel_rfl)) #[true, true, true, true, true, true, true, true, true, true, true, true, false, false, false] (by kernel_rfl) fun a hK => ?_
     refine tM [12] (by kernel_rfl) rfl ⟨?_, trivial⟩
     refine sS hK hM 1 [.int .i64 s.kind, Str s.nm, Str s.loc, .int .i64 s.ord, .slice A2_2 K2_2.length c2_2, .slice A2_5 K2_5.length c2_5, .slice s.A3 s.el.length s.c3] (by kernel_rfl) rfl rfl rfl rfl (by kernel_rfl) fun w hM => ?_
     replace hM := hM.to (.row b2 64 [.int .i64 0, Str [], Str [], .int .i64 0, .slice none 0 0, .slice none 0 0, .slice none 0 0] :: .row b1 64 [.int .i64 s.kind, Str s.nm, Str s.loc, .int .i64 s.ord, .slice A2_2 K2_2.length c2_2, .slice A2_5 K2_5.length c2_5, .slice s.A3 s.el.length s.c3] :: ((G2_2 ++ G2_5) ++ G2_8)) (by kernel_rfl)
     refine tX #[true, true, true, true, true, true, true, true, true, true, true, true, true, false, false] (by kernel_rfl) ?_
     refine tP hK 13 22 (pA b1 6) (by kernel_rfl) (by kernel_rfl) (by kernel_rfl) (fun w => (by kernel_rfl)) #[true, true, true, true, true, true, true, true, true, true, true, true, true, true, false] (by kernel_rfl) fun a hK => ?_
     refine tM [14] (by kernel_rfl) rfl ⟨?_, trivial⟩
     refine sS hK hM 1 [.int .i64 s.kind, Str s.nm, Str s.loc, .int .i64 s.ord, .slice A2_2 K2_2.length c2_2, .slice A2_5 K2_5.length c2_5, .slice A2_8 K2_8.length c2_8] (by kernel_rfl) rfl rfl rfl rfl (by kernel_rfl) fun w hM => ?_
     replace hM := hM.to (.row b2 64 [.int .i64 0, Str [], Str [], .int .i64 0, .slice none 0 0, .slice none 0 0, .slice none 0 0] :: .row b1 64 [.int .i64 s.kind, Str s.nm, Str s.loc, .int .i64 s.ord, .slice A2_2 K2_2.length c2_2, .slice A2_5 K2_5.length c2_5, .slice A2_8 K2_8.length c2_8] :: ((G2_2 ++ G2_5) ++ G2_8)) (by kernel_rfl)
     refine tX #[true, true, true, true, true, true, true, true, true, true, true, true, true, true, true] (by kernel_rfl) ?_
     exact treeE (by kernel_rfl) ⟨A2_2, A2_5, A2_8, G2_2, G2_5, G2_8, K2_2, K2_5, K2_8, c2_2, c2_5, c2_8, hK.sub ⟨rfl, rfl, rfl, trivial⟩, hM, hi2_2, hi2_5, hi2_8, hq2_2, hq2_5, hq2_8, hr2_2, hr2_5, hr2_8⟩
    ·refine sL hK 15 (.slice s.A2 s.th.length s.c2) (by kernel_rfl) rfl rfl ((hM.row 1 rfl).cells 5 1) (by kernel_rfl) fun a hK => ?_
     refine tX #[true, true, false, true, true, false, true, true, false, false, false, false, false, false, false] (by kernel_rfl) ?_
     refine tM [2] (by kernel_rfl) rfl ⟨?_, trivial⟩
     refine sC hK hM 13 #[.slice s.A1 s.es.length s.c1, .func (.func 80) #[] #[]] (by kernel_rfl) (rC en_each_Expr rfl rfl (by kernel_rfl)) (ast_eachE s.es (fun x hx w1 h1 => ast_copyExpr x w1 h1 (exsSh_mem hssh.2.2.1 hx) (by have h8 := exsSz_mem hx; omega)) _ _ _ (hs.exprs.on hM.below) (by omega)) ?_
     rintro ⟨K2_2, A2_2, c2_2, G2_2⟩ a w ⟨hq2_2, hi2_2, hr2_2⟩ hK hM
     replace hM := (Mem.comm hM).to ((.row b2 64 [.int .i64 0, Str [], Str [], .int .i64 0, .slice none 0 0, .slice none 0 0, .slice none 0 0] :: .row b1 64 (cS s) :: G2_2)) (by kernel_rfl)
     refine tX #[true, true, true, true, true, false, true, true, false, false, false, false, false, false, false] (by kernel_rfl) ?_
     refine tP hK 9 20 (pA b1 4) (by kernel_rfl) (by kernel_rfl) (by kernel_rfl) (fun w => (by kernel_rfl)) #[true, true, true, true, true, false, true, true, false, true, false, false, false, false, false] (by kernel_rfl) fun a hK => ?_
     refine tM [5] (by kernel_rfl) rfl ⟨?_, trivial⟩
     refine sC hK hM 16 #[.slice s.A2 s.th.length s.c2] (by kernel_rfl) (rC en_ast_copyStmts rfl rfl (by kernel_rfl)) (h1 _ _ _ (hs.thn.on hM.below) (by omega)) ?_
     rintro ⟨K2_5, A2_5, c2_5, G2_5⟩ a w ⟨hq2_5, hi2_5, hr2_5⟩ hK hM
     replace hM := (Mem.comm hM).to ((.row b2 64 [.int .i64 0, Str [], Str [], .int .i64 0, .slice none 0 0, .slice none 0 0, .slice none 0 0] :: .row b1 64 (cS s) :: (G2_2 ++ G2_5))) (by kernel_rfl)
     refine tX #[true, true, true, true, true, true, true, true, false, true, false, false, false, false, false] (by kernel_rfl) ?_
     refine tM [8] (by kernel_rfl) rfl ⟨?_, trivial⟩
     refine sC hK hM 19 #[.slice s.A3 s.el.length s.c3] (by kernel_rfl) (rC en_ast_copyStmts rfl rfl (by kernel_rfl)) (h2 _ _ _ (hs.els.on hM.below) (by omega)) ?_
     rintro ⟨K2_8, A2_8, c2_8, G2_8⟩ a w ⟨hq2_8, hi2_8, hr2_8⟩ hK hM
     replace hM := (Mem.comm hM).to ((.row b2 64 [.int .i64 0, Str [], Str [], .int .i64 0, .slice none 0 0, .slice none 0 0, .slice none 0 0] :: .row b1 64 (cS s) :: ((G2_2 ++ G2_5) ++ G2_8))) (by kernel_rfl)
     refine tX #[true, true, true, true, true, true, true, true, true, true, false, false, false, false, false] (by kernel_rfl) ?_
     refine tM [10] (by kernel_rfl) rfl ⟨?_, trivial⟩
     refine sS hK hM 1 [.int .i64 s.kind, Str s.nm, Str s.loc, .int .i64 s.ord, .slice A2_2 K2_2.length c2_2, .slice s.A2 s.th.length s.c2, .slice s.A3 s.el.length s.c3] (by kernel_rfl) rfl rfl rfl rfl (by kernel_rfl) fun w hM => ?_
     replace hM := hM.to (.row b2 64 [.int .i64 0, Str [], Str [], .int .i64 0, .slice none 0 0, .slice none 0 0, .slice none 0 0] :: .row b1 64 [.int .i64 s.kind, Str s.nm, Str s.loc, .int .i64 s.ord, .slice A2_2 K2_2.length c2_2, .slice s.A2 s.th.length s.c2, .slice s.A3 s.el.length s.c3] :: ((G2_2 ++ G2_5) ++ G2_8)) (by kernel_rfl)
     refine tX #[true, true, true, true, true, true, true, true, true, true, true, false, false, false, false] (by kernel_rfl) ?_
     refine tP hK 11 21 (pA b1 5) (by kernel_rfl) (by kernel_rfl) (by kernel_rfl) (fun w => (by kernel_rfl)) #[true, true, true, true, true, true, true, true, true, true, true, true, false, false, false] (by kernel_rfl) fun a hK => ?_
     refine tM [12] (by kernel_rfl) rfl ⟨?_, trivial⟩
     refine sS hK hM 1 [.int .i64 s.kind, Str s.nm, Str s.loc, .int .i64 s.ord, .slice A2_2 K2_2.length c2_2, .slice A2_5 K2_5.length c2_5, .slice s.A3 s.el.length s.c3] (by kernel_rfl) rfl rfl rfl rfl (by kernel_rfl) fun w hM => ?_
     replace hM := hM.to (.row b2 64 [.int .i64 0, Str [], Str [], .int .i64 0, .slice none 0 0, .slice none 0 0, .slice none 0 0] :: .row b1 64 [.int .i64 s.kind, Str s.nm, Str s.loc, .int .i64 s.ord, .slice A2_2 K2_2.length c2_2, .slice A2_5 K2_5.length c2_5, .slice s.A3 s.el.length s.c3] :: ((G2_2 ++ G2_5) ++ G2_8)) (by kernel_rfl)
     refine tX #[true, true, true, true, true, true, true, true, true, true, true, true, true, false, false] (by kernel_rfl) ?_
     refine tP hK 13 22 (pA b1 6) (by kernel_rfl) (by kernel_rfl) (by kernel_rfl) (fun w => (by kernel_rfl)) #[true, true, true, true, true, true, true, true, true, true, true, true, true, true, false] (by kernel_rfl) fun a hK => ?_
     refine tM [14] (by kernel_rfl) rfl ⟨?_, trivial⟩
     refine sS hK hM 1 [.int .i64 s.kind, Str s.nm, Str s.loc, .int .i64 s.ord, .slice A2_2 K2_2.length c2_2, .slice A2_5 K2_5.length c2_5, .slice A2_8 K2_8.length c2_8] (by kernel_rfl) rfl rfl rfl rfl (by kernel_rfl) fun w hM => ?_
     replace hM := hM.to (.row b2 64 [.int .i64 0, Str [], Str [], .int .i64 0, .slice none 0 0, .slice none 0 0, .slice none 0 0] :: .row b1 64 [.int .i64 s.kind, Str s.nm, Str s.loc, .int .i64 s.ord, .slice A2_2 K2_2.length c2_2, .slice A2_5 K2_5.length c2_5, .slice A2_8 K2_8.length c2_8] :: ((G2_2 ++ G2_5) ++ G2_8)) (by kernel_rfl)
     refine tX #[true, true, true, true, true, true, true, true, true, true, true, true, true, true, true] (by kernel_rfl) ?_
     exact treeE (by kernel_rfl) ⟨A2_2, A2_5, A2_8, G2_2, G2_5, G2_8, K2_2, K2_5, K2_8, c2_2, c2_5, c2_8, hK.sub ⟨rfl, rfl, rfl, trivial⟩, hM, hi2_2, hi2_5, hi2_8, hq2_2, hq2_5, hq2_8, hr2_2, hr2_5, hr2_8⟩
   ·refine sL hK 15 (.slice s.A2 s.th.length s.c2) (by kernel_rfl) rfl rfl ((hM.row 1 rfl).cells 5 1) (by kernel_rfl) fun a hK => ?_
    refine tX #[true, false, false, true, true, false, true, true, false, false, false, false, false, false, false] (by kernel_rfl) ?_
    refine tM [1] (by kernel_rfl) rfl ⟨?_, trivial⟩
    refine sL hK 12 (.slice s.A1 s.es.length s.c1) (by kernel_rfl) rfl rfl ((hM.row 1 rfl).cells 4 1) (by kernel_rfl) fun a hK => ?_
    refine tX #[true, true, false, true, true, false, true, true, false, false, false, false, false, false, false] (by kernel_rfl) ?_
    refine tM [2] (by kernel_rfl) rfl ⟨?_, trivial⟩
    refine sC hK hM 13 #[.slice s.A1 s.es.length s.c1, .func (.func 80) #[] #[]] (by kernel_rfl) (rC en_each_Expr rfl rfl (by kernel_rfl)) (ast_eachE s.es (fun x hx w1 h1 => ast_copyExpr x w1 h1 (exsSh_mem hssh.2.2.1 hx) (by have h8 := exsSz_mem hx; omega)) _ _ _ (hs.exprs.on hM.below) (by omega)) ?_
    rintro ⟨K2_2, A2_2, c2_2, G2_2⟩ a w ⟨hq2_2, hi2_2, hr2_2⟩ hK hM
    replace hM := (Mem.comm hM).to ((.row b2 64 [.int .i64 0, Str [], Str [], .int .i64 0, .slice none 0 0, .slice none 0 0, .slice none 0 0] :: .row b1 64 (cS s) :: G2_2)) (by kernel_rfl)
    refine tX #[true, true, true, true, true, false, true, true, false, false, false, false, false, false, false] (by kernel_rfl) ?_
    refine tP hK 9 20 (pA b1 4) (by kernel_rfl) (by kernel_rfl) (by kernel_rfl) (fun w => (by kernel_rfl)) #[true, true, true, true, true, false, true, true, false, true, false, false, false, false, false] (by kernel_rfl) fun a hK => ?_
    refine tM [5] (by kernel_rfl) rfl ⟨?_, trivial⟩
    refine sC hK hM 16 #[.slice s.A2 s.th.length s.c2] (by kernel_rfl) (rC en_ast_copyStmts rfl rfl (by kernel_rfl)) (h1 _ _ _ (hs.thn.on hM.below) (by omega)) ?_
    rintro ⟨K2_5, A2_5, c2_5, G2_5⟩ a w ⟨hq2_5, hi2_5, hr2_5⟩ hK hM
    replace hM := (Mem.comm hM).to ((.row b2 64 [.int .i64 0, Str [], Str [], .int .i64 0, .slice none 0 0, .slice none 0 0, .slice none 0 0] :: .row b1 64 (cS s) :: (G2_2 ++ G2_5))) (by kernel_rfl)
    refine tX #[true, true, true, true, true, true, true, true, false, true, false, false, false, false, false] (by kernel_rfl) ?_
    refine tM [8] (by kernel_rfl) rfl ⟨?_, trivial⟩
    refine sC hK hM 19 #[.slice s.A3 s.el.length s.c3] (by kernel_rfl) (rC en_ast_copyStmts rfl rfl (by kernel_rfl)) (h2 _ _ _ (hs.els.on hM.below) (by omega)) ?_
    rintro ⟨K2_8, A2_8, c2_8, G2_8⟩ a w ⟨hq2_8, hi2_8, hr2_8⟩ hK hM
    replace hM := (Mem.comm hM).to ((.row b2 64 [.int .i64 0, Str [], Str [], .int .i64 0, .slice none 0 0, .slice none 0 0, .slice none 0 0] :: .row b1 64 (cS s) :: ((G2_2 ++ G2_5) ++ G2_8))) (by kernel_rfl)
    refine tX #[true, true, true, true, true, true, true, true, true, true, false, false, false, false, false] (by kernel_rfl) ?_
    refine tM [10] (by kernel_rfl) rfl ⟨?_, trivial⟩
    refine sS hK hM 1 [.int .i64 s.kind, Str s.nm, Str s.loc, .int .i64 s.ord, .slice A2_2 K2_2.length c2_2, .slice s.A2 s.th.length s.c2, .slice s.A3 s.el.length s.c3] (by kernel_rfl) rfl rfl rfl rfl (by kernel_rfl) fun w hM => ?_
    replace hM := hM.to (.row b2 64 [.int .i64 0, Str [], Str [], .int .i64 0, .slice none 0 0, .slice none 0 0, .slice none 0 0] :: .row b1 64 [.int .i64 s.kind, Str s.nm, Str s.loc, .int .i64 s.ord, .slice A2_2 K2_2.length c2_2, .slice s.A2 s.th.length s.c2, .slice s.A3 s.el.length s.c3] :: ((G2_2 ++ G2_5) ++ G2_8)) (by kernel_rfl)
    refine tX #[true, true, true, true, true, true, true, true, true, true, true, false, false, false, false] (by kernel_rfl) ?_
    refine tP hK 11 21 (pA b1 5) (by kernel_rfl) (by kernel_rfl) (by kernel_rfl) (fun w => (by kernel_rfl)) #[true, true, true, true, true, true, true, true, true, true, true, true, false, false, false] (by kernel_rfl) fun a hK => ?_
    refine tM [12] (by kernel_rfl) rfl ⟨?_, trivial⟩
    refine sS hK hM 1 [.int .i64 s.kind, Str s.nm, Str s.loc, .int .i64 s.ord, .slice A2_2 K2_2.length c2_2, .slice A2_5 K2_5.length c2_5, .slice s.A3 s.el.length s.c3] (by kernel_rfl) rfl rfl rfl rfl (by kernel_rfl) fun w hM => ?_
    replace hM := hM.to (.row b2 64 [.int .i64 0, Str [], Str [], .int .i64 0, .slice none 0 0, .slice none 0 0, .slice none 0 0] :: .row b1 64 [.int .i64 s.kind, Str s.nm, Str s.loc, .int .i64 s.ord, .slice A2_2 K2_2.length c2_2, .slice A2_5 K2_5.length c2_5, .slice s.A3 s.el.length s.c3] :: ((G2_2 ++ G2_5) ++ G2_8)) (by kernel_rfl)
    refine tX #[true, true, true, true, true, true, true, true, true, true, true, true, true, false, false] (by kernel_rfl) ?_
    refine tP hK 13 22 (pA b1 6) (by kernel_rfl) (by kernel_rfl) (by kernel_rfl) (fun w => (by kernel_rfl)) #[true, true, true, true, true, true, true, true, true, true, true, true, true, true, false] (by kernel_rfl) fun a hK => ?_
    refine tM [14] (by kernel_rfl) rfl ⟨?_, trivial⟩
    refine sS hK hM 1 [.int .i64 s.kind, Str s.nm, Str s.loc, .int .i64 s.ord, .slice A2_2 K2_2.length c2_2, .slice A2_5 K2_5.length c2_5, .slice A2_8 K2_8.length c2_8] (by kernel_rfl) rfl rfl rfl rfl (by kernel_rfl) fun w hM => ?_
    replace hM := hM.to (.row b2 64 [.int .i64 0, Str [], Str [], .int .i64 0, .slice none 0 0, .slice none 0 0, .slice none 0 0] :: .row b1 64 [.int .i64 s.kind, Str s.nm, Str s.loc, .int .i64 s.ord, .slice A2_2 K2_2.length c2_2, .slice A2_5 K2_5.length c2_5, .slice A2_8 K2_8.length c2_8] :: ((G2_2 ++ G2_5) ++ G2_8)) (by kernel_rfl)
    refine tX #[true, true, true, true, true, true, true, true, true, true, true, true, true, true, true] (by kernel_rfl) ?_
    exact treeE (by kernel_rfl) ⟨A2_2, A2_5, A2_8, G2_2, G2_5, G2_8, K2_2, K2_5, K2_8, c2_2, c2_5, c2_8, hK.sub ⟨rfl, rfl, rfl, trivial⟩, hM, hi2_2, hi2_5, hi2_8, hq2_2, hq2_5, hq2_8, hr2_2, hr2_5, hr2_8⟩
 rintro a w ⟨A2_2, A2_5, A2_8, G2_2, G2_5, G2_8, K2_2, K2_5, K2_8, c2_2, c2_5, c2_8, hK, hM, hi2_2, hi2_5, hi2_8, hq2_2, hq2_5, hq2_8, hr2_2, hr2_5, hr2_8⟩
 refine wp_seq ?_
 refine rg2 (by kernel_rfl) ?_
 refine sL hK 23 (.agg #[.int .i64 s.kind, Str s.nm, Str s.loc, .int .i64 s.ord, .slice A2_2 K2_2.length c2_2, .slice A2_5 K2_5.length c2_5, .slice A2_8 K2_8.length c2_8]) (by kernel_rfl) rfl rfl ((hM.row 1 rfl).cells 0 7) (by kernel_rfl) fun a hK => ?_
 refine sS hK hM 0 [.int .i64 s.kind, Str s.nm, Str s.loc, .int .i64 s.ord, .slice A2_2 K2_2.length c2_2, .slice A2_5 K2_5.length c2_5, .slice A2_8 K2_8.length c2_8] (by kernel_rfl) rfl rfl rfl rfl (by kernel_rfl) fun w hM => ?_
 replace hM := hM.to (.row b2 64 [.int .i64 s.kind, Str s.nm, Str s.loc, .int .i64 s.ord, .slice A2_2 K2_2.length c2_2, .slice A2_5 K2_5.length c2_5, .slice A2_8 K2_8.length c2_8] :: .row b1 64 [.int .i64 s.kind, Str s.nm, Str s.loc, .int .i64 s.ord, .slice A2_2 K2_2.length c2_2, .slice A2_5 K2_5.length c2_5, .slice A2_8 K2_8.length c2_8] :: ((G2_2 ++ G2_5) ++ G2_8)) (by kernel_rfl)
 refine rps ?_
 refine wp_ret ?_
 exact ret_c hK rfl rfl ((hM.row 0 rfl).cells 0 7) (u := (.agg #[.int .i64 s.kind, Str s.nm, Str s.loc, .int .i64 s.ord, .slice A2_2 K2_2.length c2_2, .slice A2_5 K2_5.length c2_5, .slice A2_8 K2_8.length c2_8])) (by kernel_rfl) (⟨(.mk s.kind s.nm s.loc s.ord A2_2 c2_2 K2_2 A2_5 c2_5 K2_5 A2_8 c2_8 K2_8, ((G2_2 ++ G2_5) ++ G2_8)), rfl, hM.drop 2, same_mkS hq2_2 hq2_5 hq2_8, rows_mkS ⟨hssh.1, hssh.2.1⟩ ⟨by omega, by omega, by omega⟩ hq2_2 hq2_5 hq2_8 hi2_2 hr2_2 hi2_5 hr2_5 hi2_8 hr2_8 (fun it hi => by simp [hi]) (fun it hi => by simp [hi]) (fun it hi => by simp [hi])⟩)
end Go.Proofs.YtiigncmpbkfhmaaGreatDoor
namespace Go.Proofs.YtiigncmpbkfhmaaGreatDoor
open Go Go.RowKit
theorem smsSz_th {l : List Sm} {x : Sm} (h : x ∈ l) : smsSz x.th ≤ smsSz l := by have h1 := smsSz_one h; have h2 := sm_sz x; omega
theorem smsSz_el {l : List Sm} {x : Sm} (h : x ∈ l) : smsSz x.el ≤ smsSz l := by have h1 := smsSz_one h; have h2 := sm_sz x; omega
theorem smsSz_es {l : List Sm} {x : Sm} (h : x ∈ l) : exsSz x.es ≤ smsSz l := by have h1 := smsSz_one h; have h2 := sm_sz x; omega
theorem smsSh_th {l : List Sm} (h : smsSh l = true) {x : Sm} (hx : x ∈ l) : smsSh x.th = true := (sm_sh (smsSh_mem h hx)).2.2.2.1
theorem smsSh_el {l : List Sm} (h : smsSh l = true) {x : Sm} (hx : x ∈ l) : smsSh x.el = true := (sm_sh (smsSh_mem h hx)).2.2.2.2
set_option maxRecDepth 100000 in
set_option maxHeartbeats 4000000 in
theorem ast_copyStmts (l : List Sm) : smsSh l = true → smsSz l ≤ 1000000 → ∀ (A : Option Addr) (c : Nat) (w0 : World), SmsAt w0 A l → Calls Tryz.prog 34 #[.slice A l.length c] w0 (GivesSs w0 l) := by
 induction l using sms_rec
 rename_i l ih
 intro hsh hsz A c w0 hl
 have hln := smsSz_len l
 refine calls_K (args := [.slice A l.length c]) (n := 5) (env := [(0, .slice A l.length c)]) Tryz.func34 rfl rfl rfl ⟨rfl, trivial⟩ fun a w hK hM => ?_
 refine wp_seq ?_
 refine rg1 (by kernel_rfl) ?_
 refine sP hK 2 (.slice none 0 0) (by kernel_rfl) (by kernel_rfl) fun a hK => ?_
 refine rps ?_
 refine wp_seq ?_
 refine rg3 (by kernel_rfl) ?_
 refine sM hK 3 0 (by kernel_rfl) (.inl rfl) rfl fun a hK => ?_
 refine sC hK hM 4 #[.slice A l.length c, .func (.func 65) #[] #[]] (by kernel_rfl) (rC en_each_Stmt rfl rfl (by kernel_rfl)) (ast_eachSm l (fun x hx w1 h1 => ast_copyStmt0 x (fun A c w2 h2 h3 => (ih x hx).1 (smsSh_th hsh hx) (by have h8 := smsSz_th hx; omega) A c w2 h2) (fun A c w2 h2 h3 => (ih x hx).2 (smsSh_el hsh hx) (by have h8 := smsSz_el hx; omega) A c w2 h2) w1 h1 (smsSh_mem hsh hx) (by have h8 := smsSz_es hx; omega) (by have h8 := smsSz_th hx; have h9 := smsSz_len x.th; omega) (by have h8 := smsSz_el hx; have h9 := smsSz_len x.el; omega)) _ _ _ (hl.on hM.below) (by omega)) ?_
 rintro ⟨K1, A1, c1, G1⟩ a w ⟨hq1, hi1, hr1⟩ hK hM
 replace hM := (Mem.comm hM).to (G1) (by kernel_rfl)
 refine sM hK 2 4 (by kernel_rfl) (.inr rfl) rfl fun a hK => ?_
 refine rps ?_
 refine wp_ret ?_
 exact ret_t hK rfl (u := (.slice A1 K1.length c1)) rfl (⟨(K1, A1, c1, G1), rfl, hM.drop 0, hq1, hi1, hr1⟩)
theorem en_ast_copyDecl : Enters Tryz.prog 32 := enters_of Tryz.func32 (by kernel_rfl) rfl
theorem en_ast_Copy : Enters Tryz.prog 12 := enters_of Tryz.func12 (by kernel_rfl) rfl
theorem en_each_Decl : Enters Tryz.prog 31 := enters_of Tryz.func31 (by kernel_rfl) rfl
theorem en_each_Thread : Enters Tryz.prog 33 := enters_of Tryz.func33 (by kernel_rfl) rfl
set_option maxRecDepth 100000 in
set_option maxHeartbeats 4000000 in
theorem ast_copyDecl (d : Dc) (w0 : World) (hln : d.nm.length ≤ 65536) : Calls Tryz.prog 32 #[.agg #[Str d.nm, .bool d.plain, .int .i64 d.val]] w0 (Ret w0 (.agg #[Str d.nm, .bool d.plain, .int .i64 d.val])) := by
 refine calls_K (args := [.agg #[Str d.nm, .bool d.plain, .int .i64 d.val]]) (n := 8) (env := [(0, .agg #[Str d.nm, .bool d.plain, .int .i64 d.val])]) Tryz.func32 rfl rfl rfl ⟨rfl, trivial⟩ fun a w hK hM => ?_
 refine wp_seq ?_
 refine rg2 (by kernel_rfl) ?_
 refine sA hK hM 1 48 [Str d.nm, .bool d.plain, .int .i64 d.val] (fun b => pA b 0) (by kernel_rfl) (by kernel_rfl) fun b1 a w hK hM => ?_
 refine sA hK hM 2 48 [Str [], .bool false, .int .i64 0] (fun b => pA b 0) (by kernel_rfl) (by kernel_rfl) fun b2 a w hK hM => ?_
 refine rps ?_
 refine wp_seq ?_
 refine rg5 (by kernel_rfl) ?_
 refine sP hK 3 (pA b1 0) (by kernel_rfl) (by kernel_rfl) fun a hK => ?_
 refine sL hK 4 (Str d.nm) (by kernel_rfl) rfl rfl ((hM.row 1 rfl).cells 0 1) (by kernel_rfl) fun a hK => ?_
 refine sR hK hM 5 #[Str d.nm] (Str d.nm) (by kernel_rfl) (rC en_strings_Clone rfl rfl (by kernel_rfl)) (lib_Clone d.nm _ (by omega)) fun a w hK hM => ?_
 refine sP hK 6 (pA b1 0) (by kernel_rfl) (by kernel_rfl) fun a hK => ?_
 refine sS hK hM 1 [Str d.nm, .bool d.plain, .int .i64 d.val] (by kernel_rfl) rfl rfl rfl rfl (by kernel_rfl) fun w hM => ?_
 replace hM := hM.to [.row b2 48 [Str [], .bool false, .int .i64 0], .row b1 48 [Str d.nm, .bool d.plain, .int .i64 d.val]] (by kernel_rfl)
 refine rps ?_
 refine wp_seq ?_
 refine rg2 (by kernel_rfl) ?_
 refine sL hK 7 (.agg #[Str d.nm, .bool d.plain, .int .i64 d.val]) (by kernel_rfl) rfl rfl ((hM.row 1 rfl).cells 0 3) (by kernel_rfl) fun a hK => ?_
 refine sS hK hM 0 [Str d.nm, .bool d.plain, .int .i64 d.val] (by kernel_rfl) rfl rfl rfl rfl (by kernel_rfl) fun w hM => ?_
 replace hM := hM.to [.row b2 48 [Str d.nm, .bool d.plain, .int .i64 d.val], .row b1 48 [Str d.nm, .bool d.plain, .int .i64 d.val]] (by kernel_rfl)
 refine rps ?_
 refine wp_ret ?_
 exact ret_c hK rfl rfl ((hM.row 0 rfl).cells 0 3) (u := (.agg #[Str d.nm, .bool d.plain, .int .i64 d.val])) (by kernel_rfl) (⟨rfl, hM.below⟩)
theorem dcs_none {w : World} {A : Option Addr} {l : List Dc} (h : DcsAt w A l) (hA : A.isNone = true) : l = [] := by
 cases l with
 | nil => rfl
 | cons x r => obtain ⟨⟨a, e, _⟩, _⟩ := h 0 x rfl; rw [e] at hA; simp at hA
theorem ths_none {w : World} {A : Option Addr} {l : List Th} (h : ThsAt w A l) (hA : A.isNone = true) : l = [] := by
 cases l with
 | nil => rfl
 | cons x r => obtain ⟨⟨a, e, _⟩, _⟩ := h 0 x rfl; rw [e] at hA; simp at hA
set_option maxRecDepth 100000 in
set_option maxHeartbeats 4000000 in
theorem ast_eachD (l : List Dc) : ∀ (A : Option Addr) (c : Nat) (w0 : World), DcsAt w0 A l → (∀ x ∈ l, x.nm.length ≤ 65536) → l.length ≤ 1000000 → Calls Tryz.prog 31 #[.slice A l.length c, .func (.func 32) #[] #[]] w0 (Gives w0 (fun x : Option Addr × Nat × List It => (.slice x.1 l.length x.2.1 : Value)) (fun x => x.2.2) fun x => RowIn x.2.2 48 x.1 (l.flatMap cD)) := by
 intro A c w0 hl hs hln
 refine calls_K (args := [.slice A l.length c, .func (.func 32) #[] #[]]) (n := 28) (env := [(0, .slice A l.length c), (1, .func (.func 32) #[] #[])]) Tryz.func31 rfl rfl rfl ⟨rfl, rfl, trivial⟩ fun a w hK hM => ?_
 refine wp_seq ?_
 refine rg1 (by kernel_rfl) ?_
 refine sP hK 4 (.slice none 0 0) (by kernel_rfl) (by kernel_rfl) fun a hK => ?_
 refine rps ?_
 refine wp_seq ?_
 refine wp_seq ?_
 refine rg2 (by kernel_rfl) ?_
 refine sM hK 8 0 (by kernel_rfl) (.inl rfl) rfl fun a hK => ?_
 rcases Bool.eq_false_or_eq_true (A).isNone with h1 | h1
 ·refine sP hK 9 (.bool true) (by kernel_rfl) (oB (b := (A).isNone) (run_eqNil rfl rfl rfl Tryz.underlying22) h1) fun a hK => ?_
  refine rps ?_
  refine wp_cond_true (hK.get rfl) ?_
  refine wp_seq ?_
  refine rg1 (by kernel_rfl) ?_
  refine sP hK 4 (.slice none 0 0) (by kernel_rfl) (by kernel_rfl) fun a hK => ?_
  refine rps ?_
  refine wp_ret ?_
  exact ret_t hK rfl (u := (.slice none 0 0)) rfl (⟨(none, 0, []), by rw [dcs_none hl h1]; rfl, hM, .inl (by rw [dcs_none hl h1]; rfl)⟩)
 ·refine sP hK 9 (.bool false) (by kernel_rfl) (oB (b := (A).isNone) (run_eqNil rfl rfl rfl Tryz.underlying22) h1) fun a hK => ?_
  refine rps ?_
  refine wp_cond_false (hK.get rfl) ?_
  refine wp_skip ?_
  refine wp_seq ?_
  refine rg4 (by kernel_rfl) ?_
  refine sM hK 10 0 (by kernel_rfl) (.inl rfl) rfl fun a hK => ?_
  refine sP hK 11 (.int .i64 ((l.length : Nat) : Int)) (by kernel_rfl) (by kernel_rfl) fun a hK => ?_
  refine stepMake hK hM 12 [Str [], .bool false, .int .i64 0] l.length 32 Tryz.underlying22 (by kernel_rfl) (by kernel_rfl) rfl rfl rfl (by omega) fun b2 a w hK hM => ?_
  refine sM hK 5 12 (by kernel_rfl) (.inr rfl) rfl fun a hK => ?_
  refine rps ?_
  refine wp_seq ?_
  refine wp_seq ?_
  refine rg3 (by kernel_rfl) ?_
  refine sM hK 13 0 (by kernel_rfl) (.inl rfl) rfl fun a hK => ?_
  refine sP hK 14 (.int .i64 ((l.length : Nat) : Int)) (by kernel_rfl) (by kernel_rfl) fun a hK => ?_
  refine sP hK 15 (.int .i64 0) (by kernel_rfl) (by kernel_rfl) fun a hK => ?_
  refine rps ?_
  refine wp_block ?_
  refine wLX (fun x : Nat => [(14, .int .i64 ((l.length : Nat) : Int)), (13, .slice A l.length c), (5, .slice (some ⟨b2, 0, none⟩) l.length l.length), (9, .bool false), (4, .slice none 0 0), (0, .slice A l.length c), (1, .func (.func 32) #[] #[]), (15, vN x)]) (fun x : Nat => [.row b2 48 ((l.take x).flatMap cD ++ zerosL (l.length - x) [Str [], .bool false, .int .i64 0])]) (fun x : Nat => x ≤ l.length) (fun x : Nat => l.length - x) 0 (hK.sub ⟨rfl, rfl, rfl, rfl, rfl, rfl, rfl, rfl, trivial⟩) hM (Nat.zero_le _) ?_
  rintro i a w hK hM hR
  replace hK : Knows a 28 [(14, .int .i64 ((l.length : Nat) : Int)), (13, .slice A l.length c), (5, .slice (some ⟨b2, 0, none⟩) l.length l.length), (9, .bool false), (4, .slice none 0 0), (0, .slice A l.length c), (1, .func (.func 32) #[] #[]), (15, vN i)] := hK
  replace hM : Mem w0 w [.row b2 48 ((l.take i).flatMap cD ++ zerosL (l.length - i) [Str [], .bool false, .int .i64 0])] := hM
  replace hR : i ≤ l.length := hR
  refine wp_seq ?_
  refine rg1 (by kernel_rfl) ?_
  by_cases h3 : (((i : Nat) : Int) : Int) < ((l.length : Nat) : Int)
  ·refine sP hK 16 (.bool true) (by kernel_rfl) (oB (b := (decide ((((i : Nat) : Int) : Int) < ((l.length : Nat) : Int)))) (by kernel_rfl) (decide_eq_true h3)) fun a hK => ?_
   refine rps ?_
   refine wp_seq ?_
   refine wp_cond_true (hK.get rfl) ?_
   refine wp_skip ?_
   refine wp_seq ?_
   refine wp_block ?_
   refine wp_seq ?_
   refine rg6 (by kernel_rfl) ?_
   refine sM hK 17 15 (by kernel_rfl) (.inl rfl) rfl fun a hK => ?_
   obtain ⟨t4, ht4⟩ : ∃ t, l[(i : Nat)]? = some t := ⟨_, List.getElem?_eq_getElem (by omega)⟩
   obtain ⟨⟨at4, At4, ct4⟩, et4⟩ := hl _ _ ht4; have nt4 := et4
   refine sP hK 18 (.pointer (some (at4.add (i * 3)))) (by kernel_rfl) (rX (k := i) (s := 3) rfl rfl At4 rfl Tryz.underlying22 (by kernel_rfl) (by omega)) fun a hK => ?_
   refine sL hK 19 (.agg #[Str t4.nm, .bool t4.plain, .int .i64 t4.val]) (by kernel_rfl) rfl rfl ((ct4.on hM.below)) (by kernel_rfl) fun a hK => ?_
   refine sA hK hM 7 48 [Str [], .bool false, .int .i64 0] (fun b => pA b 0) (by kernel_rfl) (by kernel_rfl) fun b5 a w hK hM => ?_
   refine sM hK 6 17 (by kernel_rfl) (.inr rfl) rfl fun a hK => ?_
   refine sS hK hM 0 [Str t4.nm, .bool t4.plain, .int .i64 t4.val] (by kernel_rfl) rfl rfl rfl rfl (by kernel_rfl) fun w hM => ?_
   replace hM := hM.to [.row b5 48 [Str t4.nm, .bool t4.plain, .int .i64 t4.val], .row b2 48 ((l.take i).flatMap cD ++ zerosL (l.length - i) [Str [], .bool false, .int .i64 0])] (by kernel_rfl)
   refine rps ?_
   refine rg7 (by kernel_rfl) ?_
   refine sM hK 20 5 (by kernel_rfl) (.inl rfl) rfl fun a hK => ?_
   refine sM hK 21 6 (by kernel_rfl) (.inl rfl) rfl fun a hK => ?_
   refine sM hK 22 1 (by kernel_rfl) (.inl rfl) rfl fun a hK => ?_
   refine sL hK 23 (.agg #[Str t4.nm, .bool t4.plain, .int .i64 t4.val]) (by kernel_rfl) rfl rfl ((hM.row 0 rfl).cells 0 3) (by kernel_rfl) fun a hK => ?_
   refine sR hK hM 24 #[.agg #[Str t4.nm, .bool t4.plain, .int .i64 t4.val]] (.agg #[Str t4.nm, .bool t4.plain, .int .i64 t4.val]) (by kernel_rfl) (rC en_ast_copyDecl rfl rfl (by kernel_rfl)) (ast_copyDecl t4 _ (hs _ (List.mem_of_getElem? ht4))) fun a w hK hM => ?_
   refine sP hK 25 (.pointer (some ⟨b2, i * 3, none⟩)) (by kernel_rfl) (run_ixG (k := i) (s := 3) rfl rfl rfl Tryz.underlying22 (by kernel_rfl) (by omega)) fun a hK => ?_
   refine stepStoreAt hK hM 1 [Str t4.nm, .bool t4.plain, .int .i64 t4.val] (((l.take (i + 1)).flatMap cD ++ zerosL (l.length - (i + 1)) [Str [], .bool false, .int .i64 0])) (by kernel_rfl) rfl rfl rfl rfl (by kernel_rfl) rfl rfl (by rw [List.length_append, flat_len (s := 3) (fun _ => rfl), List.length_take, zerosL_length]; simp only [List.length_cons, List.length_nil]; omega) ((put_next (A := (l.take i).flatMap cD) (new := cD t4) (zs := [Str [], .bool false, .int .i64 0]) (m := l.length - i) (k := i * 3) (by rw [flat_len (s := 3) (fun _ => rfl), List.length_take]; congr 1; omega) rfl (by omega)).trans (by rw [List.take_add_one, ht4, List.flatMap_append]; simp [Nat.sub_sub])) fun w hM => ?_
   replace hM := hM.to ([.row b5 48 [Str t4.nm, .bool t4.plain, .int .i64 t4.val], .row b2 48 (((l.take (i + 1)).flatMap cD ++ zerosL (l.length - (i + 1)) [Str [], .bool false, .int .i64 0]))]) (by kernel_rfl)
   refine rps ?_
   refine rg2 (by kernel_rfl) ?_
   refine sP hK 26 (.int .i64 (((i + 1) : Nat) : Int)) (by kernel_rfl) (run_addN (i := i) (j := 1) rfl rfl rfl (by omega)) fun a hK => ?_
   refine sM hK 15 26 (by kernel_rfl) (.inl rfl) rfl fun a hK => ?_
   refine rps ?_
   have hRn : (i + 1) ≤ l.length := by omega
   have hmn : l.length - (i + 1) < l.length - i := by omega
   exact ⟨i + 1, hK.sub ⟨rfl, rfl, rfl, rfl, rfl, rfl, rfl, rfl, trivial⟩, (hM.drop 1), hRn, hmn⟩
  ·refine sP hK 16 (.bool false) (by kernel_rfl) (oB (b := (decide ((((i : Nat) : Int) : Int) < ((l.length : Nat) : Int)))) (by kernel_rfl) (decide_eq_false h3)) fun a hK => ?_
   refine rps ?_
   refine wp_seq ?_
   refine wp_cond_false (hK.get rfl) ?_
   refine wp_exit (exit_then (exit_then (exit_here 0 ?_)))
   refine wp_seq ?_
   refine rg2 (by kernel_rfl) ?_
   refine sM hK 27 5 (by kernel_rfl) (.inl rfl) rfl fun a hK => ?_
   refine sM hK 4 27 (by kernel_rfl) (.inr rfl) rfl fun a hK => ?_
   refine rps ?_
   refine wp_ret ?_
   exact ret_t hK rfl (u := (.slice (some ⟨b2, 0, none⟩) l.length l.length)) rfl (⟨(some ⟨b2, 0, none⟩, l.length, [.row b2 48 (l.flatMap cD)]), rfl, hM.to _ (by rw [List.take_of_length_le (by omega), Nat.sub_eq_zero_of_le (by omega)]; simp [zerosL]), .inr ⟨b2, rfl, List.mem_cons_self⟩⟩)
structure ThRows (F : List It) (t : Th) : Prop where
 row : RowIn F 64 t.A (t.l.flatMap cS)
 each : ∀ s ∈ t.l, SmRows F s
 len : t.l.length ≤ 9223372036854775807
theorem ThRows.mono {F G : List It} {t : Th} (h : ThRows F t) (hs : ∀ it ∈ F, it ∈ G) : ThRows G t := ⟨h.row.mono hs, fun s h2 => (h.each s h2).mono hs, h.len⟩
def samePtsT (done l : List Th) : Prop := ∀ (k : Nat) (u v : Th), done[k]? = some u → l[k]? = some v → smsEq u.l v.l = true
theorem samePtsT_all : ∀ {done l : List Th}, samePtsT done l → thsSame done l = true := by
 intro done
 induction done with
 | nil => intro l _; unfold thsSame; rfl
 | cons x r ih =>
  intro l h
  cases l with
  | nil => unfold thsSame; rfl
  | cons y s => rw [thsSame, h 0 x y rfl rfl, ih (fun k u v hu hv => h (k + 1) u v (by simpa using hu) (by simpa using hv))]; rfl
theorem same_snocT {l done : List Th} {i : Nat} {e q : Th} (h : samePtsT done l) (hi : done.length = i) (hq : l[i]? = some q) (hs : smsEq e.l q.l = true) : samePtsT (done ++ [e]) l := by
 intro k x y hx hy
 rcases Nat.lt_or_ge k done.length with hk | hk
 ·rw [List.getElem?_append_left hk] at hx; exact h k x y hx hy
 ·rw [List.getElem?_append_right hk] at hx
  have hk2 : k = i := by
   have := (List.getElem?_eq_some_iff.1 hx).1
   simp at this; omega
  subst hk2
  rw [hi, Nat.sub_self] at hx
  obtain rfl : e = x := by simpa using hx
  rw [hq] at hy
  obtain rfl := Option.some.inj hy
  exact hs
set_option maxRecDepth 100000 in
set_option maxHeartbeats 4000000 in
theorem ast_eachT (l : List Th) : ∀ (A : Option Addr) (c : Nat) (w0 : World), ThsAt w0 A l → (∀ x ∈ l, smsSh x.l = true ∧ smsSz x.l ≤ 1000000) → l.length ≤ 1000000 → Calls Tryz.prog 33 #[.slice A l.length c, .func (.func 34) #[] #[]] w0 (Gives w0 (fun x : List Th × Option Addr × Nat × List It => (.slice x.2.1 x.1.length x.2.2.1 : Value)) (fun x => x.2.2.2) fun x => thsEq x.1 l = true ∧ RowIn x.2.2.2 38 x.2.1 (x.1.flatMap cT) ∧ ∀ y ∈ x.1, ThRows x.2.2.2 y) := by
 intro A c w0 hl hs hln
 refine calls_K (args := [.slice A l.length c, .func (.func 34) #[] #[]]) (n := 28) (env := [(0, .slice A l.length c), (1, .func (.func 34) #[] #[])]) Tryz.func33 rfl rfl rfl ⟨rfl, rfl, trivial⟩ fun a w hK hM => ?_
 refine wp_seq ?_
 refine rg1 (by kernel_rfl) ?_
 refine sP hK 4 (.slice none 0 0) (by kernel_rfl) (by kernel_rfl) fun a hK => ?_
 refine rps ?_
 refine wp_seq ?_
 refine wp_seq ?_
 refine rg2 (by kernel_rfl) ?_
 refine sM hK 8 0 (by kernel_rfl) (.inl rfl) rfl fun a hK => ?_
 rcases Bool.eq_false_or_eq_true (A).isNone with h1 | h1
 ·refine sP hK 9 (.bool true) (by kernel_rfl) (oB (b := (A).isNone) (run_eqNil rfl rfl rfl Tryz.underlying23) h1) fun a hK => ?_
  refine rps ?_
  refine wp_cond_true (hK.get rfl) ?_
  refine wp_seq ?_
  refine rg1 (by kernel_rfl) ?_
  refine sP hK 4 (.slice none 0 0) (by kernel_rfl) (by kernel_rfl) fun a hK => ?_
  refine rps ?_
  refine wp_ret ?_
  exact ret_t hK rfl (u := (.slice none 0 0)) rfl (⟨([], none, 0, []), rfl, hM, by rw [ths_none hl h1]; rfl, .inl rfl, fun y hy => by cases hy⟩)
 ·refine sP hK 9 (.bool false) (by kernel_rfl) (oB (b := (A).isNone) (run_eqNil rfl rfl rfl Tryz.underlying23) h1) fun a hK => ?_
  refine rps ?_
  refine wp_cond_false (hK.get rfl) ?_
  refine wp_skip ?_
  refine wp_seq ?_
  refine rg4 (by kernel_rfl) ?_
  refine sM hK 10 0 (by kernel_rfl) (.inl rfl) rfl fun a hK => ?_
  refine sP hK 11 (.int .i64 ((l.length : Nat) : Int)) (by kernel_rfl) (by kernel_rfl) fun a hK => ?_
  refine stepMake hK hM 12 [.slice none 0 0] l.length 24 Tryz.underlying23 (by kernel_rfl) (by kernel_rfl) rfl rfl rfl (by omega) fun b2 a w hK hM => ?_
  refine sM hK 5 12 (by kernel_rfl) (.inr rfl) rfl fun a hK => ?_
  refine rps ?_
  refine wp_seq ?_
  refine wp_seq ?_
  refine rg3 (by kernel_rfl) ?_
  refine sM hK 13 0 (by kernel_rfl) (.inl rfl) rfl fun a hK => ?_
  refine sP hK 14 (.int .i64 ((l.length : Nat) : Int)) (by kernel_rfl) (by kernel_rfl) fun a hK => ?_
  refine sP hK 15 (.int .i64 0) (by kernel_rfl) (by kernel_rfl) fun a hK => ?_
  refine rps ?_
  refine wp_block ?_
  refine wLX (fun x : Nat × (List Th) × (List It) => [(14, .int .i64 ((l.length : Nat) : Int)), (13, .slice A l.length c), (5, .slice (some ⟨b2, 0, none⟩) l.length l.length), (9, .bool false), (4, .slice none 0 0), (0, .slice A l.length c), (1, .func (.func 34) #[] #[]), (15, .int .i64 ((x.1 : Nat) : Int))]) (fun x : Nat × (List Th) × (List It) => (.row b2 38 (x.2.1.flatMap cT ++ zerosL (l.length - x.1) [.slice none 0 0]) :: x.2.2)) (fun x : Nat × (List Th) × (List It) => x.1 ≤ l.length ∧ x.2.1.length = x.1 ∧ samePtsT x.2.1 l ∧ ∀ u ∈ x.2.1, ThRows x.2.2 u) (fun x : Nat × (List Th) × (List It) => l.length - x.1) (0, [], []) (hK.sub ⟨rfl, rfl, rfl, rfl, rfl, rfl, rfl, rfl, trivial⟩) hM ⟨Nat.zero_le _, rfl, fun k x y hx => by simp at hx, fun x hx => by simp at hx⟩ ?_
  rintro ⟨i, done, F⟩ a w hK hM hR
  replace hK : Knows a 28 [(14, .int .i64 ((l.length : Nat) : Int)), (13, .slice A l.length c), (5, .slice (some ⟨b2, 0, none⟩) l.length l.length), (9, .bool false), (4, .slice none 0 0), (0, .slice A l.length c), (1, .func (.func 34) #[] #[]), (15, vN i)] := hK
  replace hM : Mem w0 w (.row b2 38 (done.flatMap cT ++ zerosL (l.length - i) [.slice none 0 0]) :: F) := hM
  replace hR : i ≤ l.length ∧ done.length = i ∧ samePtsT done l ∧ ∀ u ∈ done, ThRows F u := hR
  refine wp_seq ?_
  refine rg1 (by kernel_rfl) ?_
  by_cases h3 : (((i : Nat) : Int) : Int) < ((l.length : Nat) : Int)
  ·refine sP hK 16 (.bool true) (by kernel_rfl) (oB (b := (decide ((((i : Nat) : Int) : Int) < ((l.length : Nat) : Int)))) (by kernel_rfl) (decide_eq_true h3)) fun a hK => ?_
   refine rps ?_
   refine wp_seq ?_
   refine wp_cond_true (hK.get rfl) ?_
   refine wp_skip ?_
   refine wp_seq ?_
   refine wp_block ?_
   refine wp_seq ?_
   refine rg5 (by kernel_rfl) ?_
   refine sM hK 17 15 (by kernel_rfl) (.inl rfl) rfl fun a hK => ?_
   obtain ⟨t4, ht4⟩ : ∃ t, l[(i : Nat)]? = some t := ⟨_, List.getElem?_eq_getElem (by omega)⟩
   obtain ⟨⟨at4, At4, ct4⟩, et4⟩ := hl _ _ ht4; have nt4 := et4.2
   refine sP hK 18 (.pointer (some (at4.add (i * 1)))) (by kernel_rfl) (rX (k := i) (s := 1) rfl rfl At4 rfl Tryz.underlying23 (by kernel_rfl) (by omega)) fun a hK => ?_
   refine sL hK 19 (.slice t4.A t4.l.length t4.c) (by kernel_rfl) rfl rfl ((ct4.on hM.below)) (by kernel_rfl) fun a hK => ?_
   refine sM hK 6 17 (by kernel_rfl) (.inr rfl) rfl fun a hK => ?_
   refine sM hK 7 19 (by kernel_rfl) (.inr rfl) rfl fun a hK => ?_
   refine rps ?_
   refine rg7 (by kernel_rfl) ?_
   refine sM hK 20 5 (by kernel_rfl) (.inl rfl) rfl fun a hK => ?_
   refine sM hK 21 6 (by kernel_rfl) (.inl rfl) rfl fun a hK => ?_
   refine sM hK 22 1 (by kernel_rfl) (.inl rfl) rfl fun a hK => ?_
   refine sM hK 23 7 (by kernel_rfl) (.inl rfl) rfl fun a hK => ?_
   refine sC hK hM 24 #[.slice t4.A t4.l.length t4.c] (by kernel_rfl) (rC en_ast_copyStmts rfl rfl (by kernel_rfl)) (ast_copyStmts t4.l (hs _ (List.mem_of_getElem? ht4)).1 (hs _ (List.mem_of_getElem? ht4)).2 _ _ _ (et4.1.on hM.below)) ?_
   rintro ⟨K5, A5, c5, G5⟩ a w ⟨hq5, hi5, hr5⟩ hK hM
   replace hM := (Mem.comm hM).to ((.row b2 38 (done.flatMap cT ++ zerosL (l.length - i) [.slice none 0 0]) :: (F ++ G5))) (by kernel_rfl)
   refine sP hK 25 (.pointer (some ⟨b2, i * 1, none⟩)) (by kernel_rfl) (run_ixG (k := i) (s := 1) rfl rfl rfl Tryz.underlying23 (by kernel_rfl) (by omega)) fun a hK => ?_
   refine stepStoreAt hK hM 0 [.slice A5 K5.length c5] (((done ++ [(⟨A5, c5, K5⟩ : Th)]).flatMap cT ++ zerosL (l.length - (i + 1)) [.slice none 0 0])) (by kernel_rfl) rfl rfl rfl rfl (by kernel_rfl) rfl rfl (by rw [List.length_append, flat_len (s := 1) (fun _ => rfl), zerosL_length, hR.2.1]; simp only [List.length_cons, List.length_nil]; omega) ((put_next (A := done.flatMap cT) (new := cT (⟨A5, c5, K5⟩ : Th)) (zs := [.slice none 0 0]) (m := l.length - i) (k := i * 1) (by rw [flat_len (s := 1) (fun _ => rfl), hR.2.1]) rfl (by omega)).trans (by rw [List.flatMap_append]; simp [Nat.sub_sub])) fun w hM => ?_
   replace hM := hM.to ((.row b2 38 (((done ++ [(⟨A5, c5, K5⟩ : Th)]).flatMap cT ++ zerosL (l.length - (i + 1)) [.slice none 0 0])) :: (F ++ G5))) (by kernel_rfl)
   refine rps ?_
   refine rg2 (by kernel_rfl) ?_
   refine sP hK 26 (.int .i64 (((i + 1) : Nat) : Int)) (by kernel_rfl) (run_addN (i := i) (j := 1) rfl rfl rfl (by omega)) fun a hK => ?_
   refine sM hK 15 26 (by kernel_rfl) (.inl rfl) rfl fun a hK => ?_
   refine rps ?_
   have hRn : (i + 1) ≤ l.length ∧ ((done ++ [(⟨A5, c5, K5⟩ : Th)])).length = (i + 1) ∧ samePtsT ((done ++ [(⟨A5, c5, K5⟩ : Th)])) l ∧ ∀ u ∈ ((done ++ [(⟨A5, c5, K5⟩ : Th)])), ThRows ((F ++ G5)) u := ⟨by omega, by simp [hR.2.1], same_snocT hR.2.2.1 hR.2.1 ht4 hq5, fun x hx => (List.mem_append.1 hx).elim (fun h => (hR.2.2.2 x h).mono fun it hi => List.mem_append_left _ hi) fun h => by obtain rfl := List.mem_singleton.1 h; exact (ThRows.mk hi5 hr5 (by show K5.length ≤ _; have h7 : K5.length = _ := smsEq_len hq5; have h8 := (hs _ (List.mem_of_getElem? ht4)).2; have h9 := smsSz_len t4.l; omega)).mono fun it hi => List.mem_append_right _ hi⟩
   have hmn : l.length - (i + 1) < l.length - i := by omega
   exact ⟨(i + 1, (done ++ [(⟨A5, c5, K5⟩ : Th)]), (F ++ G5)), hK.sub ⟨rfl, rfl, rfl, rfl, rfl, rfl, rfl, rfl, trivial⟩, hM, hRn, hmn⟩
  ·refine sP hK 16 (.bool false) (by kernel_rfl) (oB (b := (decide ((((i : Nat) : Int) : Int) < ((l.length : Nat) : Int)))) (by kernel_rfl) (decide_eq_false h3)) fun a hK => ?_
   refine rps ?_
   refine wp_seq ?_
   refine wp_cond_false (hK.get rfl) ?_
   refine wp_exit (exit_then (exit_then (exit_here 0 ?_)))
   refine wp_seq ?_
   refine rg2 (by kernel_rfl) ?_
   refine sM hK 27 5 (by kernel_rfl) (.inl rfl) rfl fun a hK => ?_
   refine sM hK 4 27 (by kernel_rfl) (.inr rfl) rfl fun a hK => ?_
   refine rps ?_
   refine wp_ret ?_
   exact ret_t hK rfl (u := (.slice (some ⟨b2, 0, none⟩) l.length l.length)) rfl (⟨(done, some ⟨b2, 0, none⟩, l.length, .row b2 38 (done.flatMap cT) :: F), by show Ending.returned (Value.slice _ l.length l.length) = Ending.returned (Value.slice _ done.length l.length); rw [show done.length = l.length by omega], hM.to _ (by rw [Nat.sub_eq_zero_of_le (by omega)]; simp [zerosL]), by unfold thsEq neI; rw [show done.length = l.length by omega, samePtsT_all hR.2.2.1]; simp, .inr ⟨b2, rfl, List.mem_cons_self⟩, fun y hy => (hR.2.2.2 y hy).mono fun it hi => List.mem_cons_of_mem _ hi⟩)
theorem dcsEq_refl (l : List Dc) : dcsEq l l = true := by
 unfold dcsEq neI
 have : dcsSame l l = true := by
  induction l with
  | nil => unfold dcsSame; rfl
  | cons x r ih => rw [dcsSame, ih]; simp [dcSame]
 rw [this]; simp
theorem thsEq_len {l m : List Th} (h : thsEq l m = true) : l.length = m.length := by
 unfold thsEq neI at h
 simp only [Bool.not_not, Bool.and_eq_true, decide_eq_true_eq] at h
 omega
def GivesP (w0 : World) (p : Pg) : Ending → World → Prop := Gives w0 (fun x : Pg × List It => (.agg #[.slice x.1.A1 x.1.ds.length x.1.c1, .slice x.1.A2 x.1.ts.length x.1.c2] : Value)) (fun x => x.2) fun x => PgRows x.2 x.1 ∧ pgSame x.1 p = true ∧ x.1.ds = p.ds
theorem rows_pg {p : Pg} {A1 A2 : Option Addr} {c1 c2 : Nat} {ts : List Th} {G1 G2 F : List It} (hd : ∀ d ∈ p.ds, d.nm.length ≤ 65536) (hl : p.ds.length ≤ 1000000 ∧ p.ts.length ≤ 1000000) (i1 : RowIn G1 48 A1 (p.ds.flatMap cD)) (he : thsEq ts p.ts = true) (i2 : RowIn G2 38 A2 (ts.flatMap cT)) (r2 : ∀ y ∈ ts, ThRows G2 y) (m1 : ∀ it ∈ G1, it ∈ F) (m2 : ∀ it ∈ G2, it ∈ F) : PgRows F { A1 := A1, c1 := c1, ds := p.ds, A2 := A2, c2 := c2, ts := ts } where
 decls := i1.mono m1
 dlen := fun d h => (by have := hd d h; omega)
 threads := i2.mono m2
 lists := fun t h => (by have h2 := (r2 t h).mono m2; exact ⟨h2.row, h2.each, h2.len⟩)
 len := ⟨(by show p.ds.length ≤ _; omega), (by show ts.length ≤ _; rw [thsEq_len he]; omega)⟩
set_option maxRecDepth 100000 in
set_option maxHeartbeats 4000000 in
theorem ast_Copy (p : Pg) (w0 : World) (hp : PgAt w0 p) (hsh : (∀ d ∈ p.ds, d.nm.length ≤ 65536) ∧ ∀ t ∈ p.ts, smsSh t.l = true) (hsz : ∀ t ∈ p.ts, smsSz t.l ≤ 1000000) (hln : p.ds.length ≤ 1000000 ∧ p.ts.length ≤ 1000000) : Calls Tryz.prog 12 #[vG p] w0 (GivesP w0 p) := by
 refine calls_K (args := [vG p]) (n := 10) (env := [(0, vG p)]) Tryz.func12 rfl rfl rfl ⟨rfl, trivial⟩ fun a w hK hM => ?_
 refine wp_seq ?_
 refine rg2 (by kernel_rfl) ?_
 refine sA hK hM 1 25 [.slice p.A1 p.ds.length p.c1, .slice p.A2 p.ts.length p.c2] (fun b => pA b 0) (by kernel_rfl) (by kernel_rfl) fun b1 a w hK hM => ?_
 refine sA hK hM 2 25 [.slice none 0 0, .slice none 0 0] (fun b => pA b 0) (by kernel_rfl) (by kernel_rfl) fun b2 a w hK hM => ?_
 refine rps ?_
 refine wp_seq ?_
 refine wp_cut (fun a w => ∃ (A1_2 : Option Addr), ∃ (A1_5 : Option Addr), ∃ (G1_2 : List It), ∃ (G1_5 : List It), ∃ (K1_5 : List Th), ∃ (c1_2 : Nat), ∃ (c1_5 : Nat), Knows a 10 [(2, pA b2 0), (1, pA b1 0), (0, vG p)] ∧ Mem w0 w (.row b2 25 [.slice A1_2 p.ds.length c1_2, .slice A1_5 K1_5.length c1_5] :: .row b1 25 [.slice p.A1 p.ds.length p.c1, .slice p.A2 p.ts.length p.c2] :: (G1_2 ++ G1_5)) ∧ (RowIn G1_2 48 A1_2 (p.ds.flatMap cD)) ∧ (RowIn G1_5 38 A1_5 (K1_5.flatMap cT)) ∧ (thsEq K1_5 p.ts = true) ∧ (∀ y ∈ K1_5, ThRows G1_5 y)) ?_ ?_
 ·refine region_tree hM (by kernel_rfl) 8 (by kernel_rfl) #[false, false, false, false, false, false, false, false] (by kernel_rfl) ?_
  clear hM; intro w hM
  refine tP hK 0 3 (pA b1 0) (by kernel_rfl) (by kernel_rfl) (by kernel_rfl) (fun w => (by kernel_rfl)) #[true, false, false, false, false, false, false, false] (by kernel_rfl) fun a hK => ?_
  refine tP hK 3 6 (pA b1 1) (by kernel_rfl) (by kernel_rfl) (by kernel_rfl) (fun w => (by kernel_rfl)) #[true, false, false, true, false, false, false, false] (by kernel_rfl) fun a hK => ?_
  refine tM [1, 4] (by kernel_rfl) rfl ⟨?_, ?_, trivial⟩
  ·refine sL hK 4 (.slice p.A1 p.ds.length p.c1) (by kernel_rfl) rfl rfl ((hM.row 1 rfl).cells 0 1) (by kernel_rfl) fun a hK => ?_
   refine tX #[true, true, false, true, false, false, false, false] (by kernel_rfl) ?_
   refine tM [2, 4] (by kernel_rfl) rfl ⟨?_, ?_, trivial⟩
   ·refine sC hK hM 5 #[.slice p.A1 p.ds.length p.c1, .func (.func 32) #[] #[]] (by kernel_rfl) (rC en_each_Decl rfl rfl (by kernel_rfl)) (ast_eachD p.ds _ _ _ (fun k d hd => (hp.on hM.below).decls k d hd) (fun x hx => hsh.1 x hx) hln.1) ?_
    rintro ⟨A1_2, c1_2, G1_2⟩ a w hi1_2 hK hM
    replace hM := (Mem.comm hM).to ((.row b2 25 [.slice none 0 0, .slice none 0 0] :: .row b1 25 [.slice p.A1 p.ds.length p.c1, .slice p.A2 p.ts.length p.c2] :: G1_2)) (by kernel_rfl)
    refine tX #[true, true, true, true, false, false, false, false] (by kernel_rfl) ?_
    refine tM [4] (by kernel_rfl) rfl ⟨?_, trivial⟩
    refine sL hK 7 (.slice p.A2 p.ts.length p.c2) (by kernel_rfl) rfl rfl ((hM.row 1 rfl).cells 1 1) (by kernel_rfl) fun a hK => ?_
    refine tX #[true, true, true, true, true, false, false, false] (by kernel_rfl) ?_
    refine tM [5] (by kernel_rfl) rfl ⟨?_, trivial⟩
    refine sC hK hM 8 #[.slice p.A2 p.ts.length p.c2, .func (.func 34) #[] #[]] (by kernel_rfl) (rC en_each_Thread rfl rfl (by kernel_rfl)) (ast_eachT p.ts _ _ _ (fun k t ht => (hp.on hM.below).threads k t ht) (fun x hx => ⟨hsh.2 x hx, hsz x hx⟩) hln.2) ?_
    rintro ⟨K1_5, A1_5, c1_5, G1_5⟩ a w ⟨hq1_5, hi1_5, hr1_5⟩ hK hM
    replace hM := (Mem.comm hM).to ((.row b2 25 [.slice none 0 0, .slice none 0 0] :: .row b1 25 [.slice p.A1 p.ds.length p.c1, .slice p.A2 p.ts.length p.c2] :: (G1_2 ++ G1_5))) (by kernel_rfl)
    refine tX #[true, true, true, true, true, true, false, false] (by kernel_rfl) ?_
    refine tP hK 6 9 (.agg #[.slice A1_2 p.ds.length c1_2, .slice A1_5 K1_5.length c1_5]) (by kernel_rfl) (by kernel_rfl) (by kernel_rfl) (fun w => (by kernel_rfl)) #[true, true, true, true, true, true, true, false] (by kernel_rfl) fun a hK => ?_
    refine tM [7] (by kernel_rfl) rfl ⟨?_, trivial⟩
    refine sS hK hM 0 [.slice A1_2 p.ds.length c1_2, .slice A1_5 K1_5.length c1_5] (by kernel_rfl) rfl rfl rfl rfl (by kernel_rfl) fun w hM => ?_
    replace hM := hM.to (.row b2 25 [.slice A1_2 p.ds.length c1_2, .slice A1_5 K1_5.length c1_5] :: .row b1 25 [.slice p.A1 p.ds.length p.c1, .slice p.A2 p.ts.length p.c2] :: (G1_2 ++ G1_5)) (by kernel_rfl)
    refine tX #[true, true, true, true, true, true, true, true] (by kernel_rfl) ?_
    exact treeE (by kernel_rfl) ⟨A1_2, A1_5, G1_2, G1_5, K1_5, c1_2, c1_5, hK.sub ⟨rfl, rfl, rfl, trivial⟩, hM, hi1_2, hi1_5, hq1_5, hr1_5⟩
   ·refine sL hK 7 (.slice p.A2 p.ts.length p.c2) (by kernel_rfl) rfl rfl ((hM.row 1 rfl).cells 1 1) (by kernel_rfl) fun a hK => ?_
    refine tX #[true, true, false, true, true, false, false, false] (by kernel_rfl) ?_
    refine tM [2] (by kernel_rfl) rfl ⟨?_, trivial⟩
    refine sC hK hM 5 #[.slice p.A1 p.ds.length p.c1, .func (.func 32) #[] #[]] (by kernel_rfl) (rC en_each_Decl rfl rfl (by kernel_rfl)) (ast_eachD p.ds _ _ _ (fun k d hd => (hp.on hM.below).decls k d hd) (fun x hx => hsh.1 x hx) hln.1) ?_
    rintro ⟨A1_2, c1_2, G1_2⟩ a w hi1_2 hK hM
    replace hM := (Mem.comm hM).to ((.row b2 25 [.slice none 0 0, .slice none 0 0] :: .row b1 25 [.slice p.A1 p.ds.length p.c1, .slice p.A2 p.ts.length p.c2] :: G1_2)) (by kernel_rfl)
    refine tX #[true, true, true, true, true, false, false, false] (by kernel_rfl) ?_
    refine tM [5] (by kernel_rfl) rfl ⟨?_, trivial⟩
    refine sC hK hM 8 #[.slice p.A2 p.ts.length p.c2, .func (.func 34) #[] #[]] (by kernel_rfl) (rC en_each_Thread rfl rfl (by kernel_rfl)) (ast_eachT p.ts _ _ _ (fun k t ht => (hp.on hM.below).threads k t ht) (fun x hx => ⟨hsh.2 x hx, hsz x hx⟩) hln.2) ?_
    rintro ⟨K1_5, A1_5, c1_5, G1_5⟩ a w ⟨hq1_5, hi1_5, hr1_5⟩ hK hM
    replace hM := (Mem.comm hM).to ((.row b2 25 [.slice none 0 0, .slice none 0 0] :: .row b1 25 [.slice p.A1 p.ds.length p.c1, .slice p.A2 p.ts.length p.c2] :: (G1_2 ++ G1_5))) (by kernel_rfl)
    refine tX #[true, true, true, true, true, true, false, false] (by kernel_rfl) ?_
    refine tP hK 6 9 (.agg #[.slice A1_2 p.ds.length c1_2, .slice A1_5 K1_5.length c1_5]) (by kernel_rfl) (by kernel_rfl) (by kernel_rfl) (fun w => (by kernel_rfl)) #[true, true, true, true, true, true, true, false] (by kernel_rfl) fun a hK => ?_
    refine tM [7] (by kernel_rfl) rfl ⟨?_, trivial⟩
    refine sS hK hM 0 [.slice A1_2 p.ds.length c1_2, .slice A1_5 K1_5.length c1_5] (by kernel_rfl) rfl rfl rfl rfl (by kernel_rfl) fun w hM => ?_
    replace hM := hM.to (.row b2 25 [.slice A1_2 p.ds.length c1_2, .slice A1_5 K1_5.length c1_5] :: .row b1 25 [.slice p.A1 p.ds.length p.c1, .slice p.A2 p.ts.length p.c2] :: (G1_2 ++ G1_5)) (by kernel_rfl)
    refine tX #[true, true, true, true, true, true, true, true] (by kernel_rfl) ?_
    exact treeE (by kernel_rfl) ⟨A1_2, A1_5, G1_2, G1_5, K1_5, c1_2, c1_5, hK.sub ⟨rfl, rfl, rfl, trivial⟩, hM, hi1_2, hi1_5, hq1_5, hr1_5⟩
  ·refine sL hK 7 (.slice p.A2 p.ts.length p.c2) (by kernel_rfl) rfl rfl ((hM.row 1 rfl).cells 1 1) (by kernel_rfl) fun a hK => ?_
   refine tX #[true, false, false, true, true, false, false, false] (by kernel_rfl) ?_
   refine tM [1] (by kernel_rfl) rfl ⟨?_, trivial⟩
   refine sL hK 4 (.slice p.A1 p.ds.length p.c1) (by kernel_rfl) rfl rfl ((hM.row 1 rfl).cells 0 1) (by kernel_rfl) fun a hK => ?_
   refine tX #[true, true, false, true, true, false, false, false] (by kernel_rfl) ?_
   refine tM [2] (by kernel_rfl) rfl ⟨?_, trivial⟩
   refine sC hK hM 5 #[.slice p.A1 p.ds.length p.c1, .func (.func 32) #[] #[]] (by kernel_rfl) (rC en_each_Decl rfl rfl (by kernel_rfl)) (ast_eachD p.ds _ _ _ (fun k d hd => (hp.on hM.below).decls k d hd) (fun x hx => hsh.1 x hx) hln.1) ?_
   rintro ⟨A1_2, c1_2, G1_2⟩ a w hi1_2 hK hM
   replace hM := (Mem.comm hM).to ((.row b2 25 [.slice none 0 0, .slice none 0 0] :: .row b1 25 [.slice p.A1 p.ds.length p.c1, .slice p.A2 p.ts.length p.c2] :: G1_2)) (by kernel_rfl)
   refine tX #[true, true, true, true, true, false, false, false] (by kernel_rfl) ?_
   refine tM [5] (by kernel_rfl) rfl ⟨?_, trivial⟩
   refine sC hK hM 8 #[.slice p.A2 p.ts.length p.c2, .func (.func 34) #[] #[]] (by kernel_rfl) (rC en_each_Thread rfl rfl (by kernel_rfl)) (ast_eachT p.ts _ _ _ (fun k t ht => (hp.on hM.below).threads k t ht) (fun x hx => ⟨hsh.2 x hx, hsz x hx⟩) hln.2) ?_
   rintro ⟨K1_5, A1_5, c1_5, G1_5⟩ a w ⟨hq1_5, hi1_5, hr1_5⟩ hK hM
   replace hM := (Mem.comm hM).to ((.row b2 25 [.slice none 0 0, .slice none 0 0] :: .row b1 25 [.slice p.A1 p.ds.length p.c1, .slice p.A2 p.ts.length p.c2] :: (G1_2 ++ G1_5))) (by kernel_rfl)
   refine tX #[true, true, true, true, true, true, false, false] (by kernel_rfl) ?_
   refine tP hK 6 9 (.agg #[.slice A1_2 p.ds.length c1_2, .slice A1_5 K1_5.length c1_5]) (by kernel_rfl) (by kernel_rfl) (by kernel_rfl) (fun w => (by kernel_rfl)) #[true, true, true, true, true, true, true, false] (by kernel_rfl) fun a hK => ?_
   refine tM [7] (by kernel_rfl) rfl ⟨?_, trivial⟩
   refine sS hK hM 0 [.slice A1_2 p.ds.length c1_2, .slice A1_5 K1_5.length c1_5] (by kernel_rfl) rfl rfl rfl rfl (by kernel_rfl) fun w hM => ?_
   replace hM := hM.to (.row b2 25 [.slice A1_2 p.ds.length c1_2, .slice A1_5 K1_5.length c1_5] :: .row b1 25 [.slice p.A1 p.ds.length p.c1, .slice p.A2 p.ts.length p.c2] :: (G1_2 ++ G1_5)) (by kernel_rfl)
   refine tX #[true, true, true, true, true, true, true, true] (by kernel_rfl) ?_
   exact treeE (by kernel_rfl) ⟨A1_2, A1_5, G1_2, G1_5, K1_5, c1_2, c1_5, hK.sub ⟨rfl, rfl, rfl, trivial⟩, hM, hi1_2, hi1_5, hq1_5, hr1_5⟩
 rintro a w ⟨A1_2, A1_5, G1_2, G1_5, K1_5, c1_2, c1_5, hK, hM, hi1_2, hi1_5, hq1_5, hr1_5⟩
 refine wp_ret ?_
 exact ret_c hK rfl rfl ((hM.row 0 rfl).cells 0 2) (u := (.agg #[.slice A1_2 p.ds.length c1_2, .slice A1_5 K1_5.length c1_5])) (by kernel_rfl) (⟨({ A1 := A1_2, c1 := c1_2, ds := p.ds, A2 := A1_5, c2 := c1_5, ts := K1_5 }, (G1_2 ++ G1_5)), rfl, hM.drop 2, rows_pg hsh.1 hln hi1_2 hq1_5 hi1_5 hr1_5 (fun it hi => by simp [hi]) (fun it hi => by simp [hi]), by unfold pgSame; rw [show dcsEq _ _ = true from dcsEq_refl p.ds]; exact hq1_5, rfl⟩)
end Go.Proofs.YtiigncmpbkfhmaaGreatDoor
namespace Go.Proofs.YtiigncmpbkfhmaaGreatDoor
open Go Go.RowKit
theorem en_cantileverkit_Num : Enters Tryz.prog 52 := enters_of Tryz.func52 (by kernel_rfl) rfl
theorem en_cantileverkit_Reg : Enters Tryz.prog 50 := enters_of Tryz.func50 (by kernel_rfl) rfl
theorem en_cantileverkit_Two : Enters Tryz.prog 51 := enters_of Tryz.func51 (by kernel_rfl) rfl
theorem en_cantileverkit_Pages : Enters Tryz.prog 19 := enters_of Tryz.func19 (by kernel_rfl) rfl
set_option maxRecDepth 100000 in
set_option maxHeartbeats 4000000 in
theorem kit_Num (n : Int) (w0 : World) : Calls Tryz.prog 52 #[.int .i64 n] w0 (Ret w0 (.agg #[.int .i64 1, .int .i64 n, Str [], .slice none 0 0])) := by
 refine calls_K (args := [.int .i64 n]) (n := 5) (env := [(0, .int .i64 n)]) Tryz.func52 rfl rfl rfl ⟨rfl, trivial⟩ fun a w hK hM => ?_
 refine wp_seq ?_
 refine rg1 (by kernel_rfl) ?_
 refine sA hK hM 2 28 [.int .i64 0, .int .i64 0, Str [], .slice none 0 0] (fun b => pA b 0) (by kernel_rfl) (by kernel_rfl) fun b1 a w hK hM => ?_
 refine rps ?_
 refine wp_seq ?_
 refine rg3 (by kernel_rfl) ?_
 refine sM hK 3 0 (by kernel_rfl) (.inl rfl) rfl fun a hK => ?_
 refine sP hK 4 (.agg #[.int .i64 1, .int .i64 n, Str [], .slice none 0 0]) (by kernel_rfl) (by kernel_rfl) fun a hK => ?_
 refine sS hK hM 0 [.int .i64 1, .int .i64 n, Str [], .slice none 0 0] (by kernel_rfl) rfl rfl rfl rfl (by kernel_rfl) fun w hM => ?_
 replace hM := hM.to [.row b1 28 [.int .i64 1, .int .i64 n, Str [], .slice none 0 0]] (by kernel_rfl)
 refine rps ?_
 refine wp_ret ?_
 exact ret_c hK rfl rfl ((hM.row 0 rfl).cells 0 4) (u := (.agg #[.int .i64 1, .int .i64 n, Str [], .slice none 0 0])) (by kernel_rfl) (⟨rfl, hM.below⟩)
set_option maxRecDepth 100000 in
set_option maxHeartbeats 4000000 in
theorem kit_Reg (s : List UInt8) (w0 : World) : Calls Tryz.prog 50 #[Str s] w0 (Ret w0 (.agg #[.int .i64 2, .int .i64 0, Str s, .slice none 0 0])) := by
 refine calls_K (args := [Str s]) (n := 5) (env := [(0, Str s)]) Tryz.func50 rfl rfl rfl ⟨rfl, trivial⟩ fun a w hK hM => ?_
 refine wp_seq ?_
 refine rg1 (by kernel_rfl) ?_
 refine sA hK hM 2 28 [.int .i64 0, .int .i64 0, Str [], .slice none 0 0] (fun b => pA b 0) (by kernel_rfl) (by kernel_rfl) fun b1 a w hK hM => ?_
 refine rps ?_
 refine wp_seq ?_
 refine rg3 (by kernel_rfl) ?_
 refine sM hK 3 0 (by kernel_rfl) (.inl rfl) rfl fun a hK => ?_
 refine sP hK 4 (.agg #[.int .i64 2, .int .i64 0, Str s, .slice none 0 0]) (by kernel_rfl) (by kernel_rfl) fun a hK => ?_
 refine sS hK hM 0 [.int .i64 2, .int .i64 0, Str s, .slice none 0 0] (by kernel_rfl) rfl rfl rfl rfl (by kernel_rfl) fun w hM => ?_
 replace hM := hM.to [.row b1 28 [.int .i64 2, .int .i64 0, Str s, .slice none 0 0]] (by kernel_rfl)
 refine rps ?_
 refine wp_ret ?_
 exact ret_c hK rfl rfl ((hM.row 0 rfl).cells 0 4) (u := (.agg #[.int .i64 2, .int .i64 0, Str s, .slice none 0 0])) (by kernel_rfl) (⟨rfl, hM.below⟩)
set_option maxRecDepth 100000 in
set_option maxHeartbeats 4000000 in
theorem kit_Two (op_ o1 n1 o2 n2 : Int) (m1 m2 : List UInt8) (A1 A2 : Option Addr) (k1 c1 k2 c2 : Nat) (w0 : World) : Calls Tryz.prog 51 #[.int .i64 op_, .agg #[.int .i64 o1, .int .i64 n1, Str m1, .slice A1 k1 c1], .agg #[.int .i64 o2, .int .i64 n2, Str m2, .slice A2 k2 c2]] w0 (Gives w0 (fun b : Nat => .agg #[.int .i64 op_, .int .i64 0, Str [], .slice (some ⟨b, 0, none⟩) 2 2]) (fun b => [.row b 28 [.int .i64 o1, .int .i64 n1, Str m1, .slice A1 k1 c1, .int .i64 o2, .int .i64 n2, Str m2, .slice A2 k2 c2]]) fun _ => True) := by
 refine calls_K (args := [.int .i64 op_, .agg #[.int .i64 o1, .int .i64 n1, Str m1, .slice A1 k1 c1], .agg #[.int .i64 o2, .int .i64 n2, Str m2, .slice A2 k2 c2]]) (n := 12) (env := [(0, .int .i64 op_), (1, .agg #[.int .i64 o1, .int .i64 n1, Str m1, .slice A1 k1 c1]), (2, .agg #[.int .i64 o2, .int .i64 n2, Str m2, .slice A2 k2 c2])]) Tryz.func51 rfl rfl rfl ⟨rfl, rfl, rfl, trivial⟩ fun a w hK hM => ?_
 refine wp_seq ?_
 refine rg3 (by kernel_rfl) ?_
 refine sA hK hM 4 28 [.int .i64 o1, .int .i64 n1, Str m1, .slice A1 k1 c1] (fun b => pA b 0) (by kernel_rfl) (by kernel_rfl) fun b1 a w hK hM => ?_
 refine sA hK hM 5 28 [.int .i64 o2, .int .i64 n2, Str m2, .slice A2 k2 c2] (fun b => pA b 0) (by kernel_rfl) (by kernel_rfl) fun b2 a w hK hM => ?_
 refine sA hK hM 6 28 [.int .i64 0, .int .i64 0, Str [], .slice none 0 0] (fun b => pA b 0) (by kernel_rfl) (by kernel_rfl) fun b3 a w hK hM => ?_
 refine rps ?_
 refine wp_seq ?_
 refine rg6 (by kernel_rfl) ?_
 refine sM hK 7 0 (by kernel_rfl) (.inl rfl) rfl fun a hK => ?_
 refine sL hK 8 (.agg #[.int .i64 o1, .int .i64 n1, Str m1, .slice A1 k1 c1]) (by kernel_rfl) rfl rfl ((hM.row 2 rfl).cells 0 4) (by kernel_rfl) fun a hK => ?_
 refine sL hK 9 (.agg #[.int .i64 o2, .int .i64 n2, Str m2, .slice A2 k2 c2]) (by kernel_rfl) rfl rfl ((hM.row 1 rfl).cells 0 4) (by kernel_rfl) fun a hK => ?_
 refine sA hK hM 10 28 [.int .i64 o1, .int .i64 n1, Str m1, .slice A1 k1 c1, .int .i64 o2, .int .i64 n2, Str m2, .slice A2 k2 c2] (fun b => .slice (some ⟨b, 0, none⟩) 2 2) (by kernel_rfl) (by kernel_rfl) fun b4 a w hK hM => ?_
 refine sP hK 11 (.agg #[.int .i64 op_, .int .i64 0, Str [], .slice (some ⟨b4, 0, none⟩) 2 2]) (by kernel_rfl) (by kernel_rfl) fun a hK => ?_
 refine sS hK hM 1 [.int .i64 op_, .int .i64 0, Str [], .slice (some ⟨b4, 0, none⟩) 2 2] (by kernel_rfl) rfl rfl rfl rfl (by kernel_rfl) fun w hM => ?_
 replace hM := hM.to [.row b4 28 [.int .i64 o1, .int .i64 n1, Str m1, .slice A1 k1 c1, .int .i64 o2, .int .i64 n2, Str m2, .slice A2 k2 c2], .row b3 28 [.int .i64 op_, .int .i64 0, Str [], .slice (some ⟨b4, 0, none⟩) 2 2], .row b2 28 [.int .i64 o2, .int .i64 n2, Str m2, .slice A2 k2 c2], .row b1 28 [.int .i64 o1, .int .i64 n1, Str m1, .slice A1 k1 c1]] (by kernel_rfl)
 refine rps ?_
 refine wp_ret ?_
 exact ret_c hK rfl rfl ((hM.row 1 rfl).cells 0 4) (u := (.agg #[.int .i64 op_, .int .i64 0, Str [], .slice (some ⟨b4, 0, none⟩) 2 2])) (by kernel_rfl) (⟨b4, rfl, hM.pick 0 rfl, trivial⟩)
set_option maxRecDepth 100000 in
set_option maxHeartbeats 4000000 in
theorem kit_Pages  (w0 : World) : Calls Tryz.prog 19 #[] w0 (Gives w0 (fun x : Nat × Nat × Nat × Nat × Nat × Nat × Nat × Nat => .agg #[.slice (some ⟨x.2.2.2.1, 0, none⟩) 1 1, .slice (some ⟨x.2.2.2.2.2.2.2, 0, none⟩) 1 1]) (fun x => [.row x.1 28 [.int .i64 2, .int .i64 0, Str [114], .slice none 0 0, .int .i64 1, .int .i64 1, Str [], .slice none 0 0], .row x.2.1 28 [.int .i64 14, .int .i64 0, Str [], .slice (some ⟨x.1, 0, none⟩) 2 2], .row x.2.2.1 64 [.int .i64 3, Str [], Str [120], .int .i64 4, .slice (some ⟨x.2.1, 0, none⟩) 1 1, .slice none 0 0, .slice none 0 0], .row x.2.2.2.1 48 [Str [120], .bool false, .int .i64 0], .row x.2.2.2.2.1 28 [.int .i64 2, .int .i64 0, Str [114], .slice none 0 0, .int .i64 1, .int .i64 1, Str [], .slice none 0 0], .row x.2.2.2.2.2.1 28 [.int .i64 7, .int .i64 0, Str [], .slice (some ⟨x.2.2.2.2.1, 0, none⟩) 2 2], .row x.2.2.2.2.2.2.1 64 [.int .i64 2, Str [114], Str [120], .int .i64 3, .slice none 0 0, .slice none 0 0, .slice none 0 0, .int .i64 10, Str [], Str [], .int .i64 0, .slice (some ⟨x.2.2.2.2.2.1, 0, none⟩) 1 1, .slice (some ⟨x.2.2.1, 0, none⟩) 1 1, .slice none 0 0], .row x.2.2.2.2.2.2.2 38 [.slice (some ⟨x.2.2.2.2.2.2.1, 0, none⟩) 2 2]]) fun _ => True) := by
 refine calls_K (args := []) (n := 22) (env := []) Tryz.func19 rfl rfl rfl trivial fun a w hK hM => ?_
 refine wp_seq ?_
 refine rg1 (by kernel_rfl) ?_
 refine sA hK hM 0 25 [.slice none 0 0, .slice none 0 0] (fun b => pA b 0) (by kernel_rfl) (by kernel_rfl) fun b1 a w hK hM => ?_
 refine rps ?_
 refine wp_seq ?_
 refine rg3 (by kernel_rfl) ?_
 refine sR hK hM 3 #[Str [114]] (.agg #[.int .i64 2, .int .i64 0, Str [114], .slice none 0 0]) (by kernel_rfl) (rC en_cantileverkit_Reg rfl rfl (by kernel_rfl)) (kit_Reg [114] _) fun a w hK hM => ?_
 refine sA hK hM 1 28 [.int .i64 0, .int .i64 0, Str [], .slice none 0 0] (fun b => pA b 0) (by kernel_rfl) (by kernel_rfl) fun b2 a w hK hM => ?_
 refine sS hK hM 0 [.int .i64 2, .int .i64 0, Str [114], .slice none 0 0] (by kernel_rfl) rfl rfl rfl rfl (by kernel_rfl) fun w hM => ?_
 replace hM := hM.to [.row b2 28 [.int .i64 2, .int .i64 0, Str [114], .slice none 0 0], .row b1 25 [.slice none 0 0, .slice none 0 0]] (by kernel_rfl)
 refine rps ?_
 refine wp_seq ?_
 refine wp_cut (fun a w => ∃ (b2_2 : Nat), ∃ (b2_3 : Nat), ∃ (b2_5 : Nat), Knows a 22 [(2, .slice (some ⟨b2_5, 0, none⟩) 1 1), (1, pA b2 0), (0, pA b1 0)] ∧ Mem w0 w [.row b2_5 64 [.int .i64 3, Str [], Str [120], .int .i64 4, .slice (some ⟨b2_3, 0, none⟩) 1 1, .slice none 0 0, .slice none 0 0], .row b2_3 28 [.int .i64 14, .int .i64 0, Str [], .slice (some ⟨b2_2, 0, none⟩) 2 2], .row b2_2 28 [.int .i64 2, .int .i64 0, Str [114], .slice none 0 0, .int .i64 1, .int .i64 1, Str [], .slice none 0 0], .row b2 28 [.int .i64 2, .int .i64 0, Str [114], .slice none 0 0], .row b1 25 [.slice none 0 0, .slice none 0 0]]) ?_ ?_
 ·refine region_tree hM (by kernel_rfl) 7 (by kernel_rfl) #[false, false, false, false, false, false, false] (by kernel_rfl) ?_
  clear hM; intro w hM
  refine tM [0, 1] (by kernel_rfl) rfl ⟨?_, ?_, trivial⟩
  ·refine sL hK 4 (.agg #[.int .i64 2, .int .i64 0, Str [114], .slice none 0 0]) (by kernel_rfl) rfl rfl ((hM.row 0 rfl).cells 0 4) (by kernel_rfl) fun a hK => ?_
   refine tX #[true, false, false, false, false, false, false] (by kernel_rfl) ?_
   refine tM [1] (by kernel_rfl) rfl ⟨?_, trivial⟩
   refine sR hK hM 5 #[.int .i64 1] (.agg #[.int .i64 1, .int .i64 1, Str [], .slice none 0 0]) (by kernel_rfl) (rC en_cantileverkit_Num rfl rfl (by kernel_rfl)) (kit_Num 1 _) fun a w hK hM => ?_
   refine tX #[true, true, false, false, false, false, false] (by kernel_rfl) ?_
   refine tM [2] (by kernel_rfl) rfl ⟨?_, trivial⟩
   refine sC hK hM 6 #[.int .i64 14, .agg #[.int .i64 2, .int .i64 0, Str [114], .slice none 0 0], .agg #[.int .i64 1, .int .i64 1, Str [], .slice none 0 0]] (by kernel_rfl) (rC en_cantileverkit_Two rfl rfl (by kernel_rfl)) (kit_Two 14 2 0 1 1 [114] [] none none 0 0 0 0 _) ?_
   rintro b2_2 a w - hK hM
   refine tX #[true, true, true, false, false, false, false] (by kernel_rfl) ?_
   refine tM [3] (by kernel_rfl) rfl ⟨?_, trivial⟩
   refine sA hK hM 7 28 [.int .i64 14, .int .i64 0, Str [], .slice (some ⟨b2_2, 0, none⟩) 2 2] (fun b => .slice (some ⟨b, 0, none⟩) 1 1) (by kernel_rfl) (by kernel_rfl) fun b2_3 a w hK hM => ?_
   refine tX #[true, true, true, true, false, false, false] (by kernel_rfl) ?_
   refine tP hK 4 8 (.agg #[.int .i64 3, Str [], Str [120], .int .i64 4, .slice (some ⟨b2_3, 0, none⟩) 1 1, .slice none 0 0, .slice none 0 0]) (by kernel_rfl) (by kernel_rfl) (by kernel_rfl) (fun w => (by kernel_rfl)) #[true, true, true, true, true, false, false] (by kernel_rfl) fun a hK => ?_
   refine tM [5] (by kernel_rfl) rfl ⟨?_, trivial⟩
   refine sA hK hM 9 64 [.int .i64 3, Str [], Str [120], .int .i64 4, .slice (some ⟨b2_3, 0, none⟩) 1 1, .slice none 0 0, .slice none 0 0] (fun b => .slice (some ⟨b, 0, none⟩) 1 1) (by kernel_rfl) (by kernel_rfl) fun b2_5 a w hK hM => ?_
   refine tX #[true, true, true, true, true, true, false] (by kernel_rfl) ?_
   refine tP hK 6 2 (.slice (some ⟨b2_5, 0, none⟩) 1 1) (by kernel_rfl) (by kernel_rfl) (by kernel_rfl) (fun w => (by kernel_rfl)) #[true, true, true, true, true, true, true] (by kernel_rfl) fun a hK => ?_
   exact treeE (by kernel_rfl) ⟨b2_2, b2_3, b2_5, hK.sub ⟨rfl, rfl, rfl, trivial⟩, hM⟩
  ·refine sR hK hM 5 #[.int .i64 1] (.agg #[.int .i64 1, .int .i64 1, Str [], .slice none 0 0]) (by kernel_rfl) (rC en_cantileverkit_Num rfl rfl (by kernel_rfl)) (kit_Num 1 _) fun a w hK hM => ?_
   refine tX #[false, true, false, false, false, false, false] (by kernel_rfl) ?_
   refine tM [0] (by kernel_rfl) rfl ⟨?_, trivial⟩
   refine sL hK 4 (.agg #[.int .i64 2, .int .i64 0, Str [114], .slice none 0 0]) (by kernel_rfl) rfl rfl ((hM.row 0 rfl).cells 0 4) (by kernel_rfl) fun a hK => ?_
   refine tX #[true, true, false, false, false, false, false] (by kernel_rfl) ?_
   refine tM [2] (by kernel_rfl) rfl ⟨?_, trivial⟩
   refine sC hK hM 6 #[.int .i64 14, .agg #[.int .i64 2, .int .i64 0, Str [114], .slice none 0 0], .agg #[.int .i64 1, .int .i64 1, Str [], .slice none 0 0]] (by kernel_rfl) (rC en_cantileverkit_Two rfl rfl (by kernel_rfl)) (kit_Two 14 2 0 1 1 [114] [] none none 0 0 0 0 _) ?_
   rintro b2_2 a w - hK hM
   refine tX #[true, true, true, false, false, false, false] (by kernel_rfl) ?_
   refine tM [3] (by kernel_rfl) rfl ⟨?_, trivial⟩
   refine sA hK hM 7 28 [.int .i64 14, .int .i64 0, Str [], .slice (some ⟨b2_2, 0, none⟩) 2 2] (fun b => .slice (some ⟨b, 0, none⟩) 1 1) (by kernel_rfl) (by kernel_rfl) fun b2_3 a w hK hM => ?_
   refine tX #[true, true, true, true, false, false, false] (by kernel_rfl) ?_
   refine tP hK 4 8 (.agg #[.int .i64 3, Str [], Str [120], .int .i64 4, .slice (some ⟨b2_3, 0, none⟩) 1 1, .slice none 0 0, .slice none 0 0]) (by kernel_rfl) (by kernel_rfl) (by kernel_rfl) (fun w => (by kernel_rfl)) #[true, true, true, true, true, false, false] (by kernel_rfl) fun a hK => ?_
   refine tM [5] (by kernel_rfl) rfl ⟨?_, trivial⟩
   refine sA hK hM 9 64 [.int .i64 3, Str [], Str [120], .int .i64 4, .slice (some ⟨b2_3, 0, none⟩) 1 1, .slice none 0 0, .slice none 0 0] (fun b => .slice (some ⟨b, 0, none⟩) 1 1) (by kernel_rfl) (by kernel_rfl) fun b2_5 a w hK hM => ?_
   refine tX #[true, true, true, true, true, true, false] (by kernel_rfl) ?_
   refine tP hK 6 2 (.slice (some ⟨b2_5, 0, none⟩) 1 1) (by kernel_rfl) (by kernel_rfl) (by kernel_rfl) (fun w => (by kernel_rfl)) #[true, true, true, true, true, true, true] (by kernel_rfl) fun a hK => ?_
   exact treeE (by kernel_rfl) ⟨b2_2, b2_3, b2_5, hK.sub ⟨rfl, rfl, rfl, trivial⟩, hM⟩
 rintro a w ⟨b2_2, b2_3, b2_5, hK, hM⟩
 refine wp_seq ?_
 refine wp_cut (fun a w => ∃ (b3_1 : Nat), ∃ (b3_10 : Nat), ∃ (b3_5 : Nat), ∃ (b3_6 : Nat), ∃ (b3_9 : Nat), Knows a 22 [(2, .slice (some ⟨b2_5, 0, none⟩) 1 1), (1, pA b2 0), (0, pA b1 0)] ∧ Mem w0 w [.row b3_10 38 [.slice (some ⟨b3_9, 0, none⟩) 2 2], .row b3_9 64 [.int .i64 2, Str [114], Str [120], .int .i64 3, .slice none 0 0, .slice none 0 0, .slice none 0 0, .int .i64 10, Str [], Str [], .int .i64 0, .slice (some ⟨b3_6, 0, none⟩) 1 1, .slice (some ⟨b2_5, 0, none⟩) 1 1, .slice none 0 0], .row b3_6 28 [.int .i64 7, .int .i64 0, Str [], .slice (some ⟨b3_5, 0, none⟩) 2 2], .row b3_5 28 [.int .i64 2, .int .i64 0, Str [114], .slice none 0 0, .int .i64 1, .int .i64 1, Str [], .slice none 0 0], .row b3_1 48 [Str [120], .bool false, .int .i64 0], .row b2_5 64 [.int .i64 3, Str [], Str [120], .int .i64 4, .slice (some ⟨b2_3, 0, none⟩) 1 1, .slice none 0 0, .slice none 0 0], .row b2_3 28 [.int .i64 14, .int .i64 0, Str [], .slice (some ⟨b2_2, 0, none⟩) 2 2], .row b2_2 28 [.int .i64 2, .int .i64 0, Str [114], .slice none 0 0, .int .i64 1, .int .i64 1, Str [], .slice none 0 0], .row b2 28 [.int .i64 2, .int .i64 0, Str [114], .slice none 0 0], .row b1 25 [.slice (some ⟨b3_1, 0, none⟩) 1 1, .slice (some ⟨b3_10, 0, none⟩) 1 1]]) ?_ ?_
 ·refine region_tree hM (by kernel_rfl) 13 (by kernel_rfl) #[false, false, false, false, false, false, false, false, false, false, false, false, false] (by kernel_rfl) ?_
  clear hM; intro w hM
  refine tP hK 0 10 (.agg #[Str [120], .bool false, .int .i64 0]) (by kernel_rfl) (by kernel_rfl) (by kernel_rfl) (fun w => (by kernel_rfl)) #[true, false, false, false, false, false, false, false, false, false, false, false, false] (by kernel_rfl) fun a hK => ?_
  refine tP hK 2 12 (.agg #[.int .i64 2, Str [114], Str [120], .int .i64 3, .slice none 0 0, .slice none 0 0, .slice none 0 0]) (by kernel_rfl) (by kernel_rfl) (by kernel_rfl) (fun w => (by kernel_rfl)) #[true, false, true, false, false, false, false, false, false, false, false, false, false] (by kernel_rfl) fun a hK => ?_
  refine tP hK 7 17 (.slice (some ⟨b2_5, 0, none⟩) 1 1) (by kernel_rfl) (by kernel_rfl) (by kernel_rfl) (fun w => (by kernel_rfl)) #[true, false, true, false, false, false, false, true, false, false, false, false, false] (by kernel_rfl) fun a hK => ?_
  refine tM [1, 3, 4] (by kernel_rfl) rfl ⟨?_, ?_, ?_, trivial⟩
  ·refine sA hK hM 11 48 [Str [120], .bool false, .int .i64 0] (fun b => .slice (some ⟨b, 0, none⟩) 1 1) (by kernel_rfl) (by kernel_rfl) fun b3_1 a w hK hM => ?_
   refine tX #[true, true, true, false, false, false, false, true, false, false, false, false, false] (by kernel_rfl) ?_
   refine tM [3, 4] (by kernel_rfl) rfl ⟨?_, ?_, trivial⟩
   ·refine sL hK 13 (.agg #[.int .i64 2, .int .i64 0, Str [114], .slice none 0 0]) (by kernel_rfl) rfl rfl ((hM.row 4 rfl).cells 0 4) (by kernel_rfl) fun a hK => ?_
    refine tX #[true, true, true, true, false, false, false, true, false, false, false, false, false] (by kernel_rfl) ?_
    refine tM [4] (by kernel_rfl) rfl ⟨?_, trivial⟩
    refine sR hK hM 14 #[.int .i64 1] (.agg #[.int .i64 1, .int .i64 1, Str [], .slice none 0 0]) (by kernel_rfl) (rC en_cantileverkit_Num rfl rfl (by kernel_rfl)) (kit_Num 1 _) fun a w hK hM => ?_
    refine tX #[true, true, true, true, true, false, false, true, false, false, false, false, false] (by kernel_rfl) ?_
    refine tM [5] (by kernel_rfl) rfl ⟨?_, trivial⟩
    refine sC hK hM 15 #[.int .i64 7, .agg #[.int .i64 2, .int .i64 0, Str [114], .slice none 0 0], .agg #[.int .i64 1, .int .i64 1, Str [], .slice none 0 0]] (by kernel_rfl) (rC en_cantileverkit_Two rfl rfl (by kernel_rfl)) (kit_Two 7 2 0 1 1 [114] [] none none 0 0 0 0 _) ?_
    rintro b3_5 a w - hK hM
    refine tX #[true, true, true, true, true, true, false, true, false, false, false, false, false] (by kernel_rfl) ?_
    refine tM [6] (by kernel_rfl) rfl ⟨?_, trivial⟩
    refine sA hK hM 16 28 [.int .i64 7, .int .i64 0, Str [], .slice (some ⟨b3_5, 0, none⟩) 2 2] (fun b => .slice (some ⟨b, 0, none⟩) 1 1) (by kernel_rfl) (by kernel_rfl) fun b3_6 a w hK hM => ?_
    refine tX #[true, true, true, true, true, true, true, true, false, false, false, false, false] (by kernel_rfl) ?_
    refine tP hK 8 18 (.agg #[.int .i64 10, Str [], Str [], .int .i64 0, .slice (some ⟨b3_6, 0, none⟩) 1 1, .slice (some ⟨b2_5, 0, none⟩) 1 1, .slice none 0 0]) (by kernel_rfl) (by kernel_rfl) (by kernel_rfl) (fun w => (by kernel_rfl)) #[true, true, true, true, true, true, true, true, true, false, false, false, false] (by kernel_rfl) fun a hK => ?_
    refine tM [9] (by kernel_rfl) rfl ⟨?_, trivial⟩
    refine sA hK hM 19 64 [.int .i64 2, Str [114], Str [120], .int .i64 3, .slice none 0 0, .slice none 0 0, .slice none 0 0, .int .i64 10, Str [], Str [], .int .i64 0, .slice (some ⟨b3_6, 0, none⟩) 1 1, .slice (some ⟨b2_5, 0, none⟩) 1 1, .slice none 0 0] (fun b => .slice (some ⟨b, 0, none⟩) 2 2) (by kernel_rfl) (by kernel_rfl) fun b3_9 a w hK hM => ?_
    refine tX #[true, true, true, true, true, true, true, true, true, true, false, false, false] (by kernel_rfl) ?_
    refine tM [10] (by kernel_rfl) rfl ⟨?_, trivial⟩
    refine sA hK hM 20 38 [.slice (some ⟨b3_9, 0, none⟩) 2 2] (fun b => .slice (some ⟨b, 0, none⟩) 1 1) (by kernel_rfl) (by kernel_rfl) fun b3_10 a w hK hM => ?_
    refine tX #[true, true, true, true, true, true, true, true, true, true, true, false, false] (by kernel_rfl) ?_
    refine tP hK 11 21 (.agg #[.slice (some ⟨b3_1, 0, none⟩) 1 1, .slice (some ⟨b3_10, 0, none⟩) 1 1]) (by kernel_rfl) (by kernel_rfl) (by kernel_rfl) (fun w => (by kernel_rfl)) #[true, true, true, true, true, true, true, true, true, true, true, true, false] (by kernel_rfl) fun a hK => ?_
    refine tM [12] (by kernel_rfl) rfl ⟨?_, trivial⟩
    refine sS hK hM 9 [.slice (some ⟨b3_1, 0, none⟩) 1 1, .slice (some ⟨b3_10, 0, none⟩) 1 1] (by kernel_rfl) rfl rfl rfl rfl (by kernel_rfl) fun w hM => ?_
    replace hM := hM.to [.row b3_10 38 [.slice (some ⟨b3_9, 0, none⟩) 2 2], .row b3_9 64 [.int .i64 2, Str [114], Str [120], .int .i64 3, .slice none 0 0, .slice none 0 0, .slice none 0 0, .int .i64 10, Str [], Str [], .int .i64 0, .slice (some ⟨b3_6, 0, none⟩) 1 1, .slice (some ⟨b2_5, 0, none⟩) 1 1, .slice none 0 0], .row b3_6 28 [.int .i64 7, .int .i64 0, Str [], .slice (some ⟨b3_5, 0, none⟩) 2 2], .row b3_5 28 [.int .i64 2, .int .i64 0, Str [114], .slice none 0 0, .int .i64 1, .int .i64 1, Str [], .slice none 0 0], .row b3_1 48 [Str [120], .bool false, .int .i64 0], .row b2_5 64 [.int .i64 3, Str [], Str [120], .int .i64 4, .slice (some ⟨b2_3, 0, none⟩) 1 1, .slice none 0 0, .slice none 0 0], .row b2_3 28 [.int .i64 14, .int .i64 0, Str [], .slice (some ⟨b2_2, 0, none⟩) 2 2], .row b2_2 28 [.int .i64 2, .int .i64 0, Str [114], .slice none 0 0, .int .i64 1, .int .i64 1, Str [], .slice none 0 0], .row b2 28 [.int .i64 2, .int .i64 0, Str [114], .slice none 0 0], .row b1 25 [.slice (some ⟨b3_1, 0, none⟩) 1 1, .slice (some ⟨b3_10, 0, none⟩) 1 1]] (by kernel_rfl)
    refine tX #[true, true, true, true, true, true, true, true, true, true, true, true, true] (by kernel_rfl) ?_
    exact treeE (by kernel_rfl) ⟨b3_1, b3_10, b3_5, b3_6, b3_9, hK.sub ⟨rfl, rfl, rfl, trivial⟩, hM⟩
   ·refine sR hK hM 14 #[.int .i64 1] (.agg #[.int .i64 1, .int .i64 1, Str [], .slice none 0 0]) (by kernel_rfl) (rC en_cantileverkit_Num rfl rfl (by kernel_rfl)) (kit_Num 1 _) fun a w hK hM => ?_
    refine tX #[true, true, true, false, true, false, false, true, false, false, false, false, false] (by kernel_rfl) ?_
    refine tM [3] (by kernel_rfl) rfl ⟨?_, trivial⟩
    refine sL hK 13 (.agg #[.int .i64 2, .int .i64 0, Str [114], .slice none 0 0]) (by kernel_rfl) rfl rfl ((hM.row 4 rfl).cells 0 4) (by kernel_rfl) fun a hK => ?_
    refine tX #[true, true, true, true, true, false, false, true, false, false, false, false, false] (by kernel_rfl) ?_
    refine tM [5] (by kernel_rfl) rfl ⟨?_, trivial⟩
    refine sC hK hM 15 #[.int .i64 7, .agg #[.int .i64 2, .int .i64 0, Str [114], .slice none 0 0], .agg #[.int .i64 1, .int .i64 1, Str [], .slice none 0 0]] (by kernel_rfl) (rC en_cantileverkit_Two rfl rfl (by kernel_rfl)) (kit_Two 7 2 0 1 1 [114] [] none none 0 0 0 0 _) ?_
    rintro b3_5 a w - hK hM
    refine tX #[true, true, true, true, true, true, false, true, false, false, false, false, false] (by kernel_rfl) ?_
    refine tM [6] (by kernel_rfl) rfl ⟨?_, trivial⟩
    refine sA hK hM 16 28 [.int .i64 7, .int .i64 0, Str [], .slice (some ⟨b3_5, 0, none⟩) 2 2] (fun b => .slice (some ⟨b, 0, none⟩) 1 1) (by kernel_rfl) (by kernel_rfl) fun b3_6 a w hK hM => ?_
    refine tX #[true, true, true, true, true, true, true, true, false, false, false, false, false] (by kernel_rfl) ?_
    refine tP hK 8 18 (.agg #[.int .i64 10, Str [], Str [], .int .i64 0, .slice (some ⟨b3_6, 0, none⟩) 1 1, .slice (some ⟨b2_5, 0, none⟩) 1 1, .slice none 0 0]) (by kernel_rfl) (by kernel_rfl) (by kernel_rfl) (fun w => (by kernel_rfl)) #[true, true, true, true, true, true, true, true, true, false, false, false, false] (by kernel_rfl) fun a hK => ?_
    refine tM [9] (by kernel_rfl) rfl ⟨?_, trivial⟩
    refine sA hK hM 19 64 [.int .i64 2, Str [114], Str [120], .int .i64 3, .slice none 0 0, .slice none 0 0, .slice none 0 0, .int .i64 10, Str [], Str [], .int .i64 0, .slice (some ⟨b3_6, 0, none⟩) 1 1, .slice (some ⟨b2_5, 0, none⟩) 1 1, .slice none 0 0] (fun b => .slice (some ⟨b, 0, none⟩) 2 2) (by kernel_rfl) (by kernel_rfl) fun b3_9 a w hK hM => ?_
    refine tX #[true, true, true, true, true, true, true, true, true, true, false, false, false] (by kernel_rfl) ?_
    refine tM [10] (by kernel_rfl) rfl ⟨?_, trivial⟩
    refine sA hK hM 20 38 [.slice (some ⟨b3_9, 0, none⟩) 2 2] (fun b => .slice (some ⟨b, 0, none⟩) 1 1) (by kernel_rfl) (by kernel_rfl) fun b3_10 a w hK hM => ?_
    refine tX #[true, true, true, true, true, true, true, true, true, true, true, false, false] (by kernel_rfl) ?_
    refine tP hK 11 21 (.agg #[.slice (some ⟨b3_1, 0, none⟩) 1 1, .slice (some ⟨b3_10, 0, none⟩) 1 1]) (by kernel_rfl) (by kernel_rfl) (by kernel_rfl) (fun w => (by kernel_rfl)) #[true, true, true, true, true, true, true, true, true, true, true, true, false] (by kernel_rfl) fun a hK => ?_
    refine tM [12] (by kernel_rfl) rfl ⟨?_, trivial⟩
    refine sS hK hM 9 [.slice (some ⟨b3_1, 0, none⟩) 1 1, .slice (some ⟨b3_10, 0, none⟩) 1 1] (by kernel_rfl) rfl rfl rfl rfl (by kernel_rfl) fun w hM => ?_
    replace hM := hM.to [.row b3_10 38 [.slice (some ⟨b3_9, 0, none⟩) 2 2], .row b3_9 64 [.int .i64 2, Str [114], Str [120], .int .i64 3, .slice none 0 0, .slice none 0 0, .slice none 0 0, .int .i64 10, Str [], Str [], .int .i64 0, .slice (some ⟨b3_6, 0, none⟩) 1 1, .slice (some ⟨b2_5, 0, none⟩) 1 1, .slice none 0 0], .row b3_6 28 [.int .i64 7, .int .i64 0, Str [], .slice (some ⟨b3_5, 0, none⟩) 2 2], .row b3_5 28 [.int .i64 2, .int .i64 0, Str [114], .slice none 0 0, .int .i64 1, .int .i64 1, Str [], .slice none 0 0], .row b3_1 48 [Str [120], .bool false, .int .i64 0], .row b2_5 64 [.int .i64 3, Str [], Str [120], .int .i64 4, .slice (some ⟨b2_3, 0, none⟩) 1 1, .slice none 0 0, .slice none 0 0], .row b2_3 28 [.int .i64 14, .int .i64 0, Str [], .slice (some ⟨b2_2, 0, none⟩) 2 2], .row b2_2 28 [.int .i64 2, .int .i64 0, Str [114], .slice none 0 0, .int .i64 1, .int .i64 1, Str [], .slice none 0 0], .row b2 28 [.int .i64 2, .int .i64 0, Str [114], .slice none 0 0], .row b1 25 [.slice (some ⟨b3_1, 0, none⟩) 1 1, .slice (some ⟨b3_10, 0, none⟩) 1 1]] (by kernel_rfl)
    refine tX #[true, true, true, true, true, true, true, true, true, true, true, true, true] (by kernel_rfl) ?_
    exact treeE (by kernel_rfl) ⟨b3_1, b3_10, b3_5, b3_6, b3_9, hK.sub ⟨rfl, rfl, rfl, trivial⟩, hM⟩
  ·refine sL hK 13 (.agg #[.int .i64 2, .int .i64 0, Str [114], .slice none 0 0]) (by kernel_rfl) rfl rfl ((hM.row 3 rfl).cells 0 4) (by kernel_rfl) fun a hK => ?_
   refine tX #[true, false, true, true, false, false, false, true, false, false, false, false, false] (by kernel_rfl) ?_
   refine tM [1, 4] (by kernel_rfl) rfl ⟨?_, ?_, trivial⟩
   ·refine sA hK hM 11 48 [Str [120], .bool false, .int .i64 0] (fun b => .slice (some ⟨b, 0, none⟩) 1 1) (by kernel_rfl) (by kernel_rfl) fun b3_1 a w hK hM => ?_
    refine tX #[true, true, true, true, false, false, false, true, false, false, false, false, false] (by kernel_rfl) ?_
    refine tM [4] (by kernel_rfl) rfl ⟨?_, trivial⟩
    refine sR hK hM 14 #[.int .i64 1] (.agg #[.int .i64 1, .int .i64 1, Str [], .slice none 0 0]) (by kernel_rfl) (rC en_cantileverkit_Num rfl rfl (by kernel_rfl)) (kit_Num 1 _) fun a w hK hM => ?_
    refine tX #[true, true, true, true, true, false, false, true, false, false, false, false, false] (by kernel_rfl) ?_
    refine tM [5] (by kernel_rfl) rfl ⟨?_, trivial⟩
    refine sC hK hM 15 #[.int .i64 7, .agg #[.int .i64 2, .int .i64 0, Str [114], .slice none 0 0], .agg #[.int .i64 1, .int .i64 1, Str [], .slice none 0 0]] (by kernel_rfl) (rC en_cantileverkit_Two rfl rfl (by kernel_rfl)) (kit_Two 7 2 0 1 1 [114] [] none none 0 0 0 0 _) ?_
    rintro b3_5 a w - hK hM
    refine tX #[true, true, true, true, true, true, false, true, false, false, false, false, false] (by kernel_rfl) ?_
    refine tM [6] (by kernel_rfl) rfl ⟨?_, trivial⟩
    refine sA hK hM 16 28 [.int .i64 7, .int .i64 0, Str [], .slice (some ⟨b3_5, 0, none⟩) 2 2] (fun b => .slice (some ⟨b, 0, none⟩) 1 1) (by kernel_rfl) (by kernel_rfl) fun b3_6 a w hK hM => ?_
    refine tX #[true, true, true, true, true, true, true, true, false, false, false, false, false] (by kernel_rfl) ?_
    refine tP hK 8 18 (.agg #[.int .i64 10, Str [], Str [], .int .i64 0, .slice (some ⟨b3_6, 0, none⟩) 1 1, .slice (some ⟨b2_5, 0, none⟩) 1 1, .slice none 0 0]) (by kernel_rfl) (by kernel_rfl) (by kernel_rfl) (fun w => (by kernel_rfl)) #[true, true, true, true, true, true, true, true, true, false, false, false, false] (by kernel_rfl) fun a hK => ?_
    refine tM [9] (by kernel_rfl) rfl ⟨?_, trivial⟩
    refine sA hK hM 19 64 [.int .i64 2, Str [114], Str [120], .int .i64 3, .slice none 0 0, .slice none 0 0, .slice none 0 0, .int .i64 10, Str [], Str [], .int .i64 0, .slice (some ⟨b3_6, 0, none⟩) 1 1, .slice (some ⟨b2_5, 0, none⟩) 1 1, .slice none 0 0] (fun b => .slice (some ⟨b, 0, none⟩) 2 2) (by kernel_rfl) (by kernel_rfl) fun b3_9 a w hK hM => ?_
    refine tX #[true, true, true, true, true, true, true, true, true, true, false, false, false] (by kernel_rfl) ?_
    refine tM [10] (by kernel_rfl) rfl ⟨?_, trivial⟩
    refine sA hK hM 20 38 [.slice (some ⟨b3_9, 0, none⟩) 2 2] (fun b => .slice (some ⟨b, 0, none⟩) 1 1) (by kernel_rfl) (by kernel_rfl) fun b3_10 a w hK hM => ?_
    refine tX #[true, true, true, true, true, true, true, true, true, true, true, false, false] (by kernel_rfl) ?_
    refine tP hK 11 21 (.agg #[.slice (some ⟨b3_1, 0, none⟩) 1 1, .slice (some ⟨b3_10, 0, none⟩) 1 1]) (by kernel_rfl) (by kernel_rfl) (by kernel_rfl) (fun w => (by kernel_rfl)) #[true, true, true, true, true, true, true, true, true, true, true, true, false] (by kernel_rfl) fun a hK => ?_
    refine tM [12] (by kernel_rfl) rfl ⟨?_, trivial⟩
    refine sS hK hM 9 [.slice (some ⟨b3_1, 0, none⟩) 1 1, .slice (some ⟨b3_10, 0, none⟩) 1 1] (by kernel_rfl) rfl rfl rfl rfl (by kernel_rfl) fun w hM => ?_
    replace hM := hM.to [.row b3_10 38 [.slice (some ⟨b3_9, 0, none⟩) 2 2], .row b3_9 64 [.int .i64 2, Str [114], Str [120], .int .i64 3, .slice none 0 0, .slice none 0 0, .slice none 0 0, .int .i64 10, Str [], Str [], .int .i64 0, .slice (some ⟨b3_6, 0, none⟩) 1 1, .slice (some ⟨b2_5, 0, none⟩) 1 1, .slice none 0 0], .row b3_6 28 [.int .i64 7, .int .i64 0, Str [], .slice (some ⟨b3_5, 0, none⟩) 2 2], .row b3_5 28 [.int .i64 2, .int .i64 0, Str [114], .slice none 0 0, .int .i64 1, .int .i64 1, Str [], .slice none 0 0], .row b3_1 48 [Str [120], .bool false, .int .i64 0], .row b2_5 64 [.int .i64 3, Str [], Str [120], .int .i64 4, .slice (some ⟨b2_3, 0, none⟩) 1 1, .slice none 0 0, .slice none 0 0], .row b2_3 28 [.int .i64 14, .int .i64 0, Str [], .slice (some ⟨b2_2, 0, none⟩) 2 2], .row b2_2 28 [.int .i64 2, .int .i64 0, Str [114], .slice none 0 0, .int .i64 1, .int .i64 1, Str [], .slice none 0 0], .row b2 28 [.int .i64 2, .int .i64 0, Str [114], .slice none 0 0], .row b1 25 [.slice (some ⟨b3_1, 0, none⟩) 1 1, .slice (some ⟨b3_10, 0, none⟩) 1 1]] (by kernel_rfl)
    refine tX #[true, true, true, true, true, true, true, true, true, true, true, true, true] (by kernel_rfl) ?_
    exact treeE (by kernel_rfl) ⟨b3_1, b3_10, b3_5, b3_6, b3_9, hK.sub ⟨rfl, rfl, rfl, trivial⟩, hM⟩
   ·refine sR hK hM 14 #[.int .i64 1] (.agg #[.int .i64 1, .int .i64 1, Str [], .slice none 0 0]) (by kernel_rfl) (rC en_cantileverkit_Num rfl rfl (by kernel_rfl)) (kit_Num 1 _) fun a w hK hM => ?_
    refine tX #[true, false, true, true, true, false, false, true, false, false, false, false, false] (by kernel_rfl) ?_
    refine tM [1, 5] (by kernel_rfl) rfl ⟨?_, ?_, trivial⟩
    ·refine sA hK hM 11 48 [Str [120], .bool false, .int .i64 0] (fun b => .slice (some ⟨b, 0, none⟩) 1 1) (by kernel_rfl) (by kernel_rfl) fun b3_1 a w hK hM => ?_
     refine tX #[true, true, true, true, true, false, false, true, false, false, false, false, false] (by kernel_rfl) ?_
     refine tM [5] (by kernel_rfl) rfl ⟨?_, trivial⟩
     refine sC hK hM 15 #[.int .i64 7, .agg #[.int .i64 2, .int .i64 0, Str [114], .slice none 0 0], .agg #[.int .i64 1, .int .i64 1, Str [], .slice none 0 0]] (by kernel_rfl) (rC en_cantileverkit_Two rfl rfl (by kernel_rfl)) (kit_Two 7 2 0 1 1 [114] [] none none 0 0 0 0 _) ?_
     rintro b3_5 a w - hK hM
     refine tX #[true, true, true, true, true, true, false, true, false, false, false, false, false] (by kernel_rfl) ?_
     refine tM [6] (by kernel_rfl) rfl ⟨?_, trivial⟩
     refine sA hK hM 16 28 [.int .i64 7, .int .i64 0, Str [], .slice (some ⟨b3_5, 0, none⟩) 2 2] (fun b => .slice (some ⟨b, 0, none⟩) 1 1) (by kernel_rfl) (by kernel_rfl) fun b3_6 a w hK hM => ?_
     refine tX #[true, true, true, true, true, true, true, true, false, false, false, false, false] (by kernel_rfl) ?_
     refine tP hK 8 18 (.agg #[.int .i64 10, Str [], Str [], .int .i64 0, .slice (some ⟨b3_6, 0, none⟩) 1 1, .slice (some ⟨b2_5, 0, none⟩) 1 1, .slice none 0 0]) (by kernel_rfl) (by kernel_rfl) (by kernel_rfl) (fun w => (by kernel_rfl)) #[true, true, true, true, true, true, true, true, true, false, false, false, false] (by kernel_rfl) fun a hK => ?_
     refine tM [9] (by kernel_rfl) rfl ⟨?_, trivial⟩
     refine sA hK hM 19 64 [.int .i64 2, Str [114], Str [120], .int .i64 3, .slice none 0 0, .slice none 0 0, .slice none 0 0, .int .i64 10, Str [], Str [], .int .i64 0, .slice (some ⟨b3_6, 0, none⟩) 1 1, .slice (some ⟨b2_5, 0, none⟩) 1 1, .slice none 0 0] (fun b => .slice (some ⟨b, 0, none⟩) 2 2) (by kernel_rfl) (by kernel_rfl) fun b3_9 a w hK hM => ?_
     refine tX #[true, true, true, true, true, true, true, true, true, true, false, false, false] (by kernel_rfl) ?_
     refine tM [10] (by kernel_rfl) rfl ⟨?_, trivial⟩
     refine sA hK hM 20 38 [.slice (some ⟨b3_9, 0, none⟩) 2 2] (fun b => .slice (some ⟨b, 0, none⟩) 1 1) (by kernel_rfl) (by kernel_rfl) fun b3_10 a w hK hM => ?_
     refine tX #[true, true, true, true, true, true, true, true, true, true, true, false, false] (by kernel_rfl) ?_
     refine tP hK 11 21 (.agg #[.slice (some ⟨b3_1, 0, none⟩) 1 1, .slice (some ⟨b3_10, 0, none⟩) 1 1]) (by kernel_rfl) (by kernel_rfl) (by kernel_rfl) (fun w => (by kernel_rfl)) #[true, true, true, true, true, true, true, true, true, true, true, true, false] (by kernel_rfl) fun a hK => ?_
     refine tM [12] (by kernel_rfl) rfl ⟨?_, trivial⟩
     refine sS hK hM 9 [.slice (some ⟨b3_1, 0, none⟩) 1 1, .slice (some ⟨b3_10, 0, none⟩) 1 1] (by kernel_rfl) rfl rfl rfl rfl (by kernel_rfl) fun w hM => ?_
     replace hM := hM.to [.row b3_10 38 [.slice (some ⟨b3_9, 0, none⟩) 2 2], .row b3_9 64 [.int .i64 2, Str [114], Str [120], .int .i64 3, .slice none 0 0, .slice none 0 0, .slice none 0 0, .int .i64 10, Str [], Str [], .int .i64 0, .slice (some ⟨b3_6, 0, none⟩) 1 1, .slice (some ⟨b2_5, 0, none⟩) 1 1, .slice none 0 0], .row b3_6 28 [.int .i64 7, .int .i64 0, Str [], .slice (some ⟨b3_5, 0, none⟩) 2 2], .row b3_5 28 [.int .i64 2, .int .i64 0, Str [114], .slice none 0 0, .int .i64 1, .int .i64 1, Str [], .slice none 0 0], .row b3_1 48 [Str [120], .bool false, .int .i64 0], .row b2_5 64 [.int .i64 3, Str [], Str [120], .int .i64 4, .slice (some ⟨b2_3, 0, none⟩) 1 1, .slice none 0 0, .slice none 0 0], .row b2_3 28 [.int .i64 14, .int .i64 0, Str [], .slice (some ⟨b2_2, 0, none⟩) 2 2], .row b2_2 28 [.int .i64 2, .int .i64 0, Str [114], .slice none 0 0, .int .i64 1, .int .i64 1, Str [], .slice none 0 0], .row b2 28 [.int .i64 2, .int .i64 0, Str [114], .slice none 0 0], .row b1 25 [.slice (some ⟨b3_1, 0, none⟩) 1 1, .slice (some ⟨b3_10, 0, none⟩) 1 1]] (by kernel_rfl)
     refine tX #[true, true, true, true, true, true, true, true, true, true, true, true, true] (by kernel_rfl) ?_
     exact treeE (by kernel_rfl) ⟨b3_1, b3_10, b3_5, b3_6, b3_9, hK.sub ⟨rfl, rfl, rfl, trivial⟩, hM⟩
    ·refine sC hK hM 15 #[.int .i64 7, .agg #[.int .i64 2, .int .i64 0, Str [114], .slice none 0 0], .agg #[.int .i64 1, .int .i64 1, Str [], .slice none 0 0]] (by kernel_rfl) (rC en_cantileverkit_Two rfl rfl (by kernel_rfl)) (kit_Two 7 2 0 1 1 [114] [] none none 0 0 0 0 _) ?_
     rintro b3_5 a w - hK hM
     refine tX #[true, false, true, true, true, true, false, true, false, false, false, false, false] (by kernel_rfl) ?_
     refine tM [1, 6] (by kernel_rfl) rfl ⟨?_, ?_, trivial⟩
     ·refine sA hK hM 11 48 [Str [120], .bool false, .int .i64 0] (fun b => .slice (some ⟨b, 0, none⟩) 1 1) (by kernel_rfl) (by kernel_rfl) fun b3_1 a w hK hM => ?_
      refine tX #[true, true, true, true, true, true, false, true, false, false, false, false, false] (by kernel_rfl) ?_
      refine tM [6] (by kernel_rfl) rfl ⟨?_, trivial⟩
      refine sA hK hM 16 28 [.int .i64 7, .int .i64 0, Str [], .slice (some ⟨b3_5, 0, none⟩) 2 2] (fun b => .slice (some ⟨b, 0, none⟩) 1 1) (by kernel_rfl) (by kernel_rfl) fun b3_6 a w hK hM => ?_
      refine tX #[true, true, true, true, true, true, true, true, false, false, false, false, false] (by kernel_rfl) ?_
      refine tP hK 8 18 (.agg #[.int .i64 10, Str [], Str [], .int .i64 0, .slice (some ⟨b3_6, 0, none⟩) 1 1, .slice (some ⟨b2_5, 0, none⟩) 1 1, .slice none 0 0]) (by kernel_rfl) (by kernel_rfl) (by kernel_rfl) (fun w => (by kernel_rfl)) #[true, true, true, true, true, true, true, true, true, false, false, false, false] (by kernel_rfl) fun a hK => ?_
      refine tM [9] (by kernel_rfl) rfl ⟨?_, trivial⟩
      refine sA hK hM 19 64 [.int .i64 2, Str [114], Str [120], .int .i64 3, .slice none 0 0, .slice none 0 0, .slice none 0 0, .int .i64 10, Str [], Str [], .int .i64 0, .slice (some ⟨b3_6, 0, none⟩) 1 1, .slice (some ⟨b2_5, 0, none⟩) 1 1, .slice none 0 0] (fun b => .slice (some ⟨b, 0, none⟩) 2 2) (by kernel_rfl) (by kernel_rfl) fun b3_9 a w hK hM => ?_
      refine tX #[true, true, true, true, true, true, true, true, true, true, false, false, false] (by kernel_rfl) ?_
      refine tM [10] (by kernel_rfl) rfl ⟨?_, trivial⟩
      refine sA hK hM 20 38 [.slice (some ⟨b3_9, 0, none⟩) 2 2] (fun b => .slice (some ⟨b, 0, none⟩) 1 1) (by kernel_rfl) (by kernel_rfl) fun b3_10 a w hK hM => ?_
      refine tX #[true, true, true, true, true, true, true, true, true, true, true, false, false] (by kernel_rfl) ?_
      refine tP hK 11 21 (.agg #[.slice (some ⟨b3_1, 0, none⟩) 1 1, .slice (some ⟨b3_10, 0, none⟩) 1 1]) (by kernel_rfl) (by kernel_rfl) (by kernel_rfl) (fun w => (by kernel_rfl)) #[true, true, true, true, true, true, true, true, true, true, true, true, false] (by kernel_rfl) fun a hK => ?_
      refine tM [12] (by kernel_rfl) rfl ⟨?_, trivial⟩
      refine sS hK hM 9 [.slice (some ⟨b3_1, 0, none⟩) 1 1, .slice (some ⟨b3_10, 0, none⟩) 1 1] (by kernel_rfl) rfl rfl rfl rfl (by kernel_rfl) fun w hM => ?_
      replace hM := hM.to [.row b3_10 38 [.slice (some ⟨b3_9, 0, none⟩) 2 2], .row b3_9 64 [.int .i64 2, Str [114], Str [120], .int .i64 3, .slice none 0 0, .slice none 0 0, .slice none 0 0, .int .i64 10, Str [], Str [], .int .i64 0, .slice (some ⟨b3_6, 0, none⟩) 1 1, .slice (some ⟨b2_5, 0, none⟩) 1 1, .slice none 0 0], .row b3_6 28 [.int .i64 7, .int .i64 0, Str [], .slice (some ⟨b3_5, 0, none⟩) 2 2], .row b3_1 48 [Str [120], .bool false, .int .i64 0], .row b3_5 28 [.int .i64 2, .int .i64 0, Str [114], .slice none 0 0, .int .i64 1, .int .i64 1, Str [], .slice none 0 0], .row b2_5 64 [.int .i64 3, Str [], Str [120], .int .i64 4, .slice (some ⟨b2_3, 0, none⟩) 1 1, .slice none 0 0, .slice none 0 0], .row b2_3 28 [.int .i64 14, .int .i64 0, Str [], .slice (some ⟨b2_2, 0, none⟩) 2 2], .row b2_2 28 [.int .i64 2, .int .i64 0, Str [114], .slice none 0 0, .int .i64 1, .int .i64 1, Str [], .slice none 0 0], .row b2 28 [.int .i64 2, .int .i64 0, Str [114], .slice none 0 0], .row b1 25 [.slice (some ⟨b3_1, 0, none⟩) 1 1, .slice (some ⟨b3_10, 0, none⟩) 1 1]] (by kernel_rfl)
      refine tX #[true, true, true, true, true, true, true, true, true, true, true, true, true] (by kernel_rfl) ?_
      exact treeE (by kernel_rfl) ⟨b3_1, b3_10, b3_5, b3_6, b3_9, hK.sub ⟨rfl, rfl, rfl, trivial⟩, (hM.order [[.row b3_10 38 [.slice (some ⟨b3_9, 0, none⟩) 2 2]], [.row b3_9 64 [.int .i64 2, Str [114], Str [120], .int .i64 3, .slice none 0 0, .slice none 0 0, .slice none 0 0, .int .i64 10, Str [], Str [], .int .i64 0, .slice (some ⟨b3_6, 0, none⟩) 1 1, .slice (some ⟨b2_5, 0, none⟩) 1 1, .slice none 0 0]], [.row b3_6 28 [.int .i64 7, .int .i64 0, Str [], .slice (some ⟨b3_5, 0, none⟩) 2 2]], [.row b3_1 48 [Str [120], .bool false, .int .i64 0]], [.row b3_5 28 [.int .i64 2, .int .i64 0, Str [114], .slice none 0 0, .int .i64 1, .int .i64 1, Str [], .slice none 0 0]], [.row b2_5 64 [.int .i64 3, Str [], Str [120], .int .i64 4, .slice (some ⟨b2_3, 0, none⟩) 1 1, .slice none 0 0, .slice none 0 0]], [.row b2_3 28 [.int .i64 14, .int .i64 0, Str [], .slice (some ⟨b2_2, 0, none⟩) 2 2]], [.row b2_2 28 [.int .i64 2, .int .i64 0, Str [114], .slice none 0 0, .int .i64 1, .int .i64 1, Str [], .slice none 0 0]], [.row b2 28 [.int .i64 2, .int .i64 0, Str [114], .slice none 0 0]], [.row b1 25 [.slice (some ⟨b3_1, 0, none⟩) 1 1, .slice (some ⟨b3_10, 0, none⟩) 1 1]]] [0, 1, 2, 4, 3, 5, 6, 7, 8, 9] 10 rfl (by simp) (by decide) _ (by simp))⟩
     ·refine sA hK hM 16 28 [.int .i64 7, .int .i64 0, Str [], .slice (some ⟨b3_5, 0, none⟩) 2 2] (fun b => .slice (some ⟨b, 0, none⟩) 1 1) (by kernel_rfl) (by kernel_rfl) fun b3_6 a w hK hM => ?_
      refine tX #[true, false, true, true, true, true, true, true, false, false, false, false, false] (by kernel_rfl) ?_
      refine tP hK 8 18 (.agg #[.int .i64 10, Str [], Str [], .int .i64 0, .slice (some ⟨b3_6, 0, none⟩) 1 1, .slice (some ⟨b2_5, 0, none⟩) 1 1, .slice none 0 0]) (by kernel_rfl) (by kernel_rfl) (by kernel_rfl) (fun w => (by kernel_rfl)) #[true, false, true, true, true, true, true, true, true, false, false, false, false] (by kernel_rfl) fun a hK => ?_
      refine tM [1, 9] (by kernel_rfl) rfl ⟨?_, ?_, trivial⟩
      ·refine sA hK hM 11 48 [Str [120], .bool false, .int .i64 0] (fun b => .slice (some ⟨b, 0, none⟩) 1 1) (by kernel_rfl) (by kernel_rfl) fun b3_1 a w hK hM => ?_
       refine tX #[true, true, true, true, true, true, true, true, true, false, false, false, false] (by kernel_rfl) ?_
       refine tM [9] (by kernel_rfl) rfl ⟨?_, trivial⟩
       refine sA hK hM 19 64 [.int .i64 2, Str [114], Str [120], .int .i64 3, .slice none 0 0, .slice none 0 0, .slice none 0 0, .int .i64 10, Str [], Str [], .int .i64 0, .slice (some ⟨b3_6, 0, none⟩) 1 1, .slice (some ⟨b2_5, 0, none⟩) 1 1, .slice none 0 0] (fun b => .slice (some ⟨b, 0, none⟩) 2 2) (by kernel_rfl) (by kernel_rfl) fun b3_9 a w hK hM => ?_
       refine tX #[true, true, true, true, true, true, true, true, true, true, false, false, false] (by kernel_rfl) ?_
       refine tM [10] (by kernel_rfl) rfl ⟨?_, trivial⟩
       refine sA hK hM 20 38 [.slice (some ⟨b3_9, 0, none⟩) 2 2] (fun b => .slice (some ⟨b, 0, none⟩) 1 1) (by kernel_rfl) (by kernel_rfl) fun b3_10 a w hK hM => ?_
       refine tX #[true, true, true, true, true, true, true, true, true, true, true, false, false] (by kernel_rfl) ?_
       refine tP hK 11 21 (.agg #[.slice (some ⟨b3_1, 0, none⟩) 1 1, .slice (some ⟨b3_10, 0, none⟩) 1 1]) (by kernel_rfl) (by kernel_rfl) (by kernel_rfl) (fun w => (by kernel_rfl)) #[true, true, true, true, true, true, true, true, true, true, true, true, false] (by kernel_rfl) fun a hK => ?_
       refine tM [12] (by kernel_rfl) rfl ⟨?_, trivial⟩
       refine sS hK hM 9 [.slice (some ⟨b3_1, 0, none⟩) 1 1, .slice (some ⟨b3_10, 0, none⟩) 1 1] (by kernel_rfl) rfl rfl rfl rfl (by kernel_rfl) fun w hM => ?_
       replace hM := hM.to [.row b3_10 38 [.slice (some ⟨b3_9, 0, none⟩) 2 2], .row b3_9 64 [.int .i64 2, Str [114], Str [120], .int .i64 3, .slice none 0 0, .slice none 0 0, .slice none 0 0, .int .i64 10, Str [], Str [], .int .i64 0, .slice (some ⟨b3_6, 0, none⟩) 1 1, .slice (some ⟨b2_5, 0, none⟩) 1 1, .slice none 0 0], .row b3_1 48 [Str [120], .bool false, .int .i64 0], .row b3_6 28 [.int .i64 7, .int .i64 0, Str [], .slice (some ⟨b3_5, 0, none⟩) 2 2], .row b3_5 28 [.int .i64 2, .int .i64 0, Str [114], .slice none 0 0, .int .i64 1, .int .i64 1, Str [], .slice none 0 0], .row b2_5 64 [.int .i64 3, Str [], Str [120], .int .i64 4, .slice (some ⟨b2_3, 0, none⟩) 1 1, .slice none 0 0, .slice none 0 0], .row b2_3 28 [.int .i64 14, .int .i64 0, Str [], .slice (some ⟨b2_2, 0, none⟩) 2 2], .row b2_2 28 [.int .i64 2, .int .i64 0, Str [114], .slice none 0 0, .int .i64 1, .int .i64 1, Str [], .slice none 0 0], .row b2 28 [.int .i64 2, .int .i64 0, Str [114], .slice none 0 0], .row b1 25 [.slice (some ⟨b3_1, 0, none⟩) 1 1, .slice (some ⟨b3_10, 0, none⟩) 1 1]] (by kernel_rfl)
       refine tX #[true, true, true, true, true, true, true, true, true, true, true, true, true] (by kernel_rfl) ?_
       exact treeE (by kernel_rfl) ⟨b3_1, b3_10, b3_5, b3_6, b3_9, hK.sub ⟨rfl, rfl, rfl, trivial⟩, (hM.order [[.row b3_10 38 [.slice (some ⟨b3_9, 0, none⟩) 2 2]], [.row b3_9 64 [.int .i64 2, Str [114], Str [120], .int .i64 3, .slice none 0 0, .slice none 0 0, .slice none 0 0, .int .i64 10, Str [], Str [], .int .i64 0, .slice (some ⟨b3_6, 0, none⟩) 1 1, .slice (some ⟨b2_5, 0, none⟩) 1 1, .slice none 0 0]], [.row b3_1 48 [Str [120], .bool false, .int .i64 0]], [.row b3_6 28 [.int .i64 7, .int .i64 0, Str [], .slice (some ⟨b3_5, 0, none⟩) 2 2]], [.row b3_5 28 [.int .i64 2, .int .i64 0, Str [114], .slice none 0 0, .int .i64 1, .int .i64 1, Str [], .slice none 0 0]], [.row b2_5 64 [.int .i64 3, Str [], Str [120], .int .i64 4, .slice (some ⟨b2_3, 0, none⟩) 1 1, .slice none 0 0, .slice none 0 0]], [.row b2_3 28 [.int .i64 14, .int .i64 0, Str [], .slice (some ⟨b2_2, 0, none⟩) 2 2]], [.row b2_2 28 [.int .i64 2, .int .i64 0, Str [114], .slice none 0 0, .int .i64 1, .int .i64 1, Str [], .slice none 0 0]], [.row b2 28 [.int .i64 2, .int .i64 0, Str [114], .slice none 0 0]], [.row b1 25 [.slice (some ⟨b3_1, 0, none⟩) 1 1, .slice (some ⟨b3_10, 0, none⟩) 1 1]]] [0, 1, 3, 4, 2, 5, 6, 7, 8, 9] 10 rfl (by simp) (by decide) _ (by simp))⟩
      ·refine sA hK hM 19 64 [.int .i64 2, Str [114], Str [120], .int .i64 3, .slice none 0 0, .slice none 0 0, .slice none 0 0, .int .i64 10, Str [], Str [], .int .i64 0, .slice (some ⟨b3_6, 0, none⟩) 1 1, .slice (some ⟨b2_5, 0, none⟩) 1 1, .slice none 0 0] (fun b => .slice (some ⟨b, 0, none⟩) 2 2) (by kernel_rfl) (by kernel_rfl) fun b3_9 a w hK hM => ?_
       refine tX #[true, false, true, true, true, true, true, true, true, true, false, false, false] (by kernel_rfl) ?_
       refine tM [1, 10] (by kernel_rfl) rfl ⟨?_, ?_, trivial⟩
       ·refine sA hK hM 11 48 [Str [120], .bool false, .int .i64 0] (fun b => .slice (some ⟨b, 0, none⟩) 1 1) (by kernel_rfl) (by kernel_rfl) fun b3_1 a w hK hM => ?_
        refine tX #[true, true, true, true, true, true, true, true, true, true, false, false, false] (by kernel_rfl) ?_
        refine tM [10] (by kernel_rfl) rfl ⟨?_, trivial⟩
        refine sA hK hM 20 38 [.slice (some ⟨b3_9, 0, none⟩) 2 2] (fun b => .slice (some ⟨b, 0, none⟩) 1 1) (by kernel_rfl) (by kernel_rfl) fun b3_10 a w hK hM => ?_
        refine tX #[true, true, true, true, true, true, true, true, true, true, true, false, false] (by kernel_rfl) ?_
        refine tP hK 11 21 (.agg #[.slice (some ⟨b3_1, 0, none⟩) 1 1, .slice (some ⟨b3_10, 0, none⟩) 1 1]) (by kernel_rfl) (by kernel_rfl) (by kernel_rfl) (fun w => (by kernel_rfl)) #[true, true, true, true, true, true, true, true, true, true, true, true, false] (by kernel_rfl) fun a hK => ?_
        refine tM [12] (by kernel_rfl) rfl ⟨?_, trivial⟩
        refine sS hK hM 9 [.slice (some ⟨b3_1, 0, none⟩) 1 1, .slice (some ⟨b3_10, 0, none⟩) 1 1] (by kernel_rfl) rfl rfl rfl rfl (by kernel_rfl) fun w hM => ?_
        replace hM := hM.to [.row b3_10 38 [.slice (some ⟨b3_9, 0, none⟩) 2 2], .row b3_1 48 [Str [120], .bool false, .int .i64 0], .row b3_9 64 [.int .i64 2, Str [114], Str [120], .int .i64 3, .slice none 0 0, .slice none 0 0, .slice none 0 0, .int .i64 10, Str [], Str [], .int .i64 0, .slice (some ⟨b3_6, 0, none⟩) 1 1, .slice (some ⟨b2_5, 0, none⟩) 1 1, .slice none 0 0], .row b3_6 28 [.int .i64 7, .int .i64 0, Str [], .slice (some ⟨b3_5, 0, none⟩) 2 2], .row b3_5 28 [.int .i64 2, .int .i64 0, Str [114], .slice none 0 0, .int .i64 1, .int .i64 1, Str [], .slice none 0 0], .row b2_5 64 [.int .i64 3, Str [], Str [120], .int .i64 4, .slice (some ⟨b2_3, 0, none⟩) 1 1, .slice none 0 0, .slice none 0 0], .row b2_3 28 [.int .i64 14, .int .i64 0, Str [], .slice (some ⟨b2_2, 0, none⟩) 2 2], .row b2_2 28 [.int .i64 2, .int .i64 0, Str [114], .slice none 0 0, .int .i64 1, .int .i64 1, Str [], .slice none 0 0], .row b2 28 [.int .i64 2, .int .i64 0, Str [114], .slice none 0 0], .row b1 25 [.slice (some ⟨b3_1, 0, none⟩) 1 1, .slice (some ⟨b3_10, 0, none⟩) 1 1]] (by kernel_rfl)
        refine tX #[true, true, true, true, true, true, true, true, true, true, true, true, true] (by kernel_rfl) ?_
        exact treeE (by kernel_rfl) ⟨b3_1, b3_10, b3_5, b3_6, b3_9, hK.sub ⟨rfl, rfl, rfl, trivial⟩, (hM.order [[.row b3_10 38 [.slice (some ⟨b3_9, 0, none⟩) 2 2]], [.row b3_1 48 [Str [120], .bool false, .int .i64 0]], [.row b3_9 64 [.int .i64 2, Str [114], Str [120], .int .i64 3, .slice none 0 0, .slice none 0 0, .slice none 0 0, .int .i64 10, Str [], Str [], .int .i64 0, .slice (some ⟨b3_6, 0, none⟩) 1 1, .slice (some ⟨b2_5, 0, none⟩) 1 1, .slice none 0 0]], [.row b3_6 28 [.int .i64 7, .int .i64 0, Str [], .slice (some ⟨b3_5, 0, none⟩) 2 2]], [.row b3_5 28 [.int .i64 2, .int .i64 0, Str [114], .slice none 0 0, .int .i64 1, .int .i64 1, Str [], .slice none 0 0]], [.row b2_5 64 [.int .i64 3, Str [], Str [120], .int .i64 4, .slice (some ⟨b2_3, 0, none⟩) 1 1, .slice none 0 0, .slice none 0 0]], [.row b2_3 28 [.int .i64 14, .int .i64 0, Str [], .slice (some ⟨b2_2, 0, none⟩) 2 2]], [.row b2_2 28 [.int .i64 2, .int .i64 0, Str [114], .slice none 0 0, .int .i64 1, .int .i64 1, Str [], .slice none 0 0]], [.row b2 28 [.int .i64 2, .int .i64 0, Str [114], .slice none 0 0]], [.row b1 25 [.slice (some ⟨b3_1, 0, none⟩) 1 1, .slice (some ⟨b3_10, 0, none⟩) 1 1]]] [0, 2, 3, 4, 1, 5, 6, 7, 8, 9] 10 rfl (by simp) (by decide) _ (by simp))⟩
       ·refine sA hK hM 20 38 [.slice (some ⟨b3_9, 0, none⟩) 2 2] (fun b => .slice (some ⟨b, 0, none⟩) 1 1) (by kernel_rfl) (by kernel_rfl) fun b3_10 a w hK hM => ?_
        refine tX #[true, false, true, true, true, true, true, true, true, true, true, false, false] (by kernel_rfl) ?_
        refine tM [1] (by kernel_rfl) rfl ⟨?_, trivial⟩
        refine sA hK hM 11 48 [Str [120], .bool false, .int .i64 0] (fun b => .slice (some ⟨b, 0, none⟩) 1 1) (by kernel_rfl) (by kernel_rfl) fun b3_1 a w hK hM => ?_
        refine tX #[true, true, true, true, true, true, true, true, true, true, true, false, false] (by kernel_rfl) ?_
        refine tP hK 11 21 (.agg #[.slice (some ⟨b3_1, 0, none⟩) 1 1, .slice (some ⟨b3_10, 0, none⟩) 1 1]) (by kernel_rfl) (by kernel_rfl) (by kernel_rfl) (fun w => (by kernel_rfl)) #[true, true, true, true, true, true, true, true, true, true, true, true, false] (by kernel_rfl) fun a hK => ?_
        refine tM [12] (by kernel_rfl) rfl ⟨?_, trivial⟩
        refine sS hK hM 9 [.slice (some ⟨b3_1, 0, none⟩) 1 1, .slice (some ⟨b3_10, 0, none⟩) 1 1] (by kernel_rfl) rfl rfl rfl rfl (by kernel_rfl) fun w hM => ?_
        replace hM := hM.to [.row b3_1 48 [Str [120], .bool false, .int .i64 0], .row b3_10 38 [.slice (some ⟨b3_9, 0, none⟩) 2 2], .row b3_9 64 [.int .i64 2, Str [114], Str [120], .int .i64 3, .slice none 0 0, .slice none 0 0, .slice none 0 0, .int .i64 10, Str [], Str [], .int .i64 0, .slice (some ⟨b3_6, 0, none⟩) 1 1, .slice (some ⟨b2_5, 0, none⟩) 1 1, .slice none 0 0], .row b3_6 28 [.int .i64 7, .int .i64 0, Str [], .slice (some ⟨b3_5, 0, none⟩) 2 2], .row b3_5 28 [.int .i64 2, .int .i64 0, Str [114], .slice none 0 0, .int .i64 1, .int .i64 1, Str [], .slice none 0 0], .row b2_5 64 [.int .i64 3, Str [], Str [120], .int .i64 4, .slice (some ⟨b2_3, 0, none⟩) 1 1, .slice none 0 0, .slice none 0 0], .row b2_3 28 [.int .i64 14, .int .i64 0, Str [], .slice (some ⟨b2_2, 0, none⟩) 2 2], .row b2_2 28 [.int .i64 2, .int .i64 0, Str [114], .slice none 0 0, .int .i64 1, .int .i64 1, Str [], .slice none 0 0], .row b2 28 [.int .i64 2, .int .i64 0, Str [114], .slice none 0 0], .row b1 25 [.slice (some ⟨b3_1, 0, none⟩) 1 1, .slice (some ⟨b3_10, 0, none⟩) 1 1]] (by kernel_rfl)
        refine tX #[true, true, true, true, true, true, true, true, true, true, true, true, true] (by kernel_rfl) ?_
        exact treeE (by kernel_rfl) ⟨b3_1, b3_10, b3_5, b3_6, b3_9, hK.sub ⟨rfl, rfl, rfl, trivial⟩, (hM.order [[.row b3_1 48 [Str [120], .bool false, .int .i64 0]], [.row b3_10 38 [.slice (some ⟨b3_9, 0, none⟩) 2 2]], [.row b3_9 64 [.int .i64 2, Str [114], Str [120], .int .i64 3, .slice none 0 0, .slice none 0 0, .slice none 0 0, .int .i64 10, Str [], Str [], .int .i64 0, .slice (some ⟨b3_6, 0, none⟩) 1 1, .slice (some ⟨b2_5, 0, none⟩) 1 1, .slice none 0 0]], [.row b3_6 28 [.int .i64 7, .int .i64 0, Str [], .slice (some ⟨b3_5, 0, none⟩) 2 2]], [.row b3_5 28 [.int .i64 2, .int .i64 0, Str [114], .slice none 0 0, .int .i64 1, .int .i64 1, Str [], .slice none 0 0]], [.row b2_5 64 [.int .i64 3, Str [], Str [120], .int .i64 4, .slice (some ⟨b2_3, 0, none⟩) 1 1, .slice none 0 0, .slice none 0 0]], [.row b2_3 28 [.int .i64 14, .int .i64 0, Str [], .slice (some ⟨b2_2, 0, none⟩) 2 2]], [.row b2_2 28 [.int .i64 2, .int .i64 0, Str [114], .slice none 0 0, .int .i64 1, .int .i64 1, Str [], .slice none 0 0]], [.row b2 28 [.int .i64 2, .int .i64 0, Str [114], .slice none 0 0]], [.row b1 25 [.slice (some ⟨b3_1, 0, none⟩) 1 1, .slice (some ⟨b3_10, 0, none⟩) 1 1]]] [1, 2, 3, 4, 0, 5, 6, 7, 8, 9] 10 rfl (by simp) (by decide) _ (by simp))⟩
  ·refine sR hK hM 14 #[.int .i64 1] (.agg #[.int .i64 1, .int .i64 1, Str [], .slice none 0 0]) (by kernel_rfl) (rC en_cantileverkit_Num rfl rfl (by kernel_rfl)) (kit_Num 1 _) fun a w hK hM => ?_
   refine tX #[true, false, true, false, true, false, false, true, false, false, false, false, false] (by kernel_rfl) ?_
   refine tM [1, 3] (by kernel_rfl) rfl ⟨?_, ?_, trivial⟩
   ·refine sA hK hM 11 48 [Str [120], .bool false, .int .i64 0] (fun b => .slice (some ⟨b, 0, none⟩) 1 1) (by kernel_rfl) (by kernel_rfl) fun b3_1 a w hK hM => ?_
    refine tX #[true, true, true, false, true, false, false, true, false, false, false, false, false] (by kernel_rfl) ?_
    refine tM [3] (by kernel_rfl) rfl ⟨?_, trivial⟩
    refine sL hK 13 (.agg #[.int .i64 2, .int .i64 0, Str [114], .slice none 0 0]) (by kernel_rfl) rfl rfl ((hM.row 4 rfl).cells 0 4) (by kernel_rfl) fun a hK => ?_
    refine tX #[true, true, true, true, true, false, false, true, false, false, false, false, false] (by kernel_rfl) ?_
    refine tM [5] (by kernel_rfl) rfl ⟨?_, trivial⟩
    refine sC hK hM 15 #[.int .i64 7, .agg #[.int .i64 2, .int .i64 0, Str [114], .slice none 0 0], .agg #[.int .i64 1, .int .i64 1, Str [], .slice none 0 0]] (by kernel_rfl) (rC en_cantileverkit_Two rfl rfl (by kernel_rfl)) (kit_Two 7 2 0 1 1 [114] [] none none 0 0 0 0 _) ?_
    rintro b3_5 a w - hK hM
    refine tX #[true, true, true, true, true, true, false, true, false, false, false, false, false] (by kernel_rfl) ?_
    refine tM [6] (by kernel_rfl) rfl ⟨?_, trivial⟩
    refine sA hK hM 16 28 [.int .i64 7, .int .i64 0, Str [], .slice (some ⟨b3_5, 0, none⟩) 2 2] (fun b => .slice (some ⟨b, 0, none⟩) 1 1) (by kernel_rfl) (by kernel_rfl) fun b3_6 a w hK hM => ?_
    refine tX #[true, true, true, true, true, true, true, true, false, false, false, false, false] (by kernel_rfl) ?_
    refine tP hK 8 18 (.agg #[.int .i64 10, Str [], Str [], .int .i64 0, .slice (some ⟨b3_6, 0, none⟩) 1 1, .slice (some ⟨b2_5, 0, none⟩) 1 1, .slice none 0 0]) (by kernel_rfl) (by kernel_rfl) (by kernel_rfl) (fun w => (by kernel_rfl)) #[true, true, true, true, true, true, true, true, true, false, false, false, false] (by kernel_rfl) fun a hK => ?_
    refine tM [9] (by kernel_rfl) rfl ⟨?_, trivial⟩
    refine sA hK hM 19 64 [.int .i64 2, Str [114], Str [120], .int .i64 3, .slice none 0 0, .slice none 0 0, .slice none 0 0, .int .i64 10, Str [], Str [], .int .i64 0, .slice (some ⟨b3_6, 0, none⟩) 1 1, .slice (some ⟨b2_5, 0, none⟩) 1 1, .slice none 0 0] (fun b => .slice (some ⟨b, 0, none⟩) 2 2) (by kernel_rfl) (by kernel_rfl) fun b3_9 a w hK hM => ?_
    refine tX #[true, true, true, true, true, true, true, true, true, true, false, false, false] (by kernel_rfl) ?_
    refine tM [10] (by kernel_rfl) rfl ⟨?_, trivial⟩
    refine sA hK hM 20 38 [.slice (some ⟨b3_9, 0, none⟩) 2 2] (fun b => .slice (some ⟨b, 0, none⟩) 1 1) (by kernel_rfl) (by kernel_rfl) fun b3_10 a w hK hM => ?_
    refine tX #[true, true, true, true, true, true, true, true, true, true, true, false, false] (by kernel_rfl) ?_
    refine tP hK 11 21 (.agg #[.slice (some ⟨b3_1, 0, none⟩) 1 1, .slice (some ⟨b3_10, 0, none⟩) 1 1]) (by kernel_rfl) (by kernel_rfl) (by kernel_rfl) (fun w => (by kernel_rfl)) #[true, true, true, true, true, true, true, true, true, true, true, true, false] (by kernel_rfl) fun a hK => ?_
    refine tM [12] (by kernel_rfl) rfl ⟨?_, trivial⟩
    refine sS hK hM 9 [.slice (some ⟨b3_1, 0, none⟩) 1 1, .slice (some ⟨b3_10, 0, none⟩) 1 1] (by kernel_rfl) rfl rfl rfl rfl (by kernel_rfl) fun w hM => ?_
    replace hM := hM.to [.row b3_10 38 [.slice (some ⟨b3_9, 0, none⟩) 2 2], .row b3_9 64 [.int .i64 2, Str [114], Str [120], .int .i64 3, .slice none 0 0, .slice none 0 0, .slice none 0 0, .int .i64 10, Str [], Str [], .int .i64 0, .slice (some ⟨b3_6, 0, none⟩) 1 1, .slice (some ⟨b2_5, 0, none⟩) 1 1, .slice none 0 0], .row b3_6 28 [.int .i64 7, .int .i64 0, Str [], .slice (some ⟨b3_5, 0, none⟩) 2 2], .row b3_5 28 [.int .i64 2, .int .i64 0, Str [114], .slice none 0 0, .int .i64 1, .int .i64 1, Str [], .slice none 0 0], .row b3_1 48 [Str [120], .bool false, .int .i64 0], .row b2_5 64 [.int .i64 3, Str [], Str [120], .int .i64 4, .slice (some ⟨b2_3, 0, none⟩) 1 1, .slice none 0 0, .slice none 0 0], .row b2_3 28 [.int .i64 14, .int .i64 0, Str [], .slice (some ⟨b2_2, 0, none⟩) 2 2], .row b2_2 28 [.int .i64 2, .int .i64 0, Str [114], .slice none 0 0, .int .i64 1, .int .i64 1, Str [], .slice none 0 0], .row b2 28 [.int .i64 2, .int .i64 0, Str [114], .slice none 0 0], .row b1 25 [.slice (some ⟨b3_1, 0, none⟩) 1 1, .slice (some ⟨b3_10, 0, none⟩) 1 1]] (by kernel_rfl)
    refine tX #[true, true, true, true, true, true, true, true, true, true, true, true, true] (by kernel_rfl) ?_
    exact treeE (by kernel_rfl) ⟨b3_1, b3_10, b3_5, b3_6, b3_9, hK.sub ⟨rfl, rfl, rfl, trivial⟩, hM⟩
   ·refine sL hK 13 (.agg #[.int .i64 2, .int .i64 0, Str [114], .slice none 0 0]) (by kernel_rfl) rfl rfl ((hM.row 3 rfl).cells 0 4) (by kernel_rfl) fun a hK => ?_
    refine tX #[true, false, true, true, true, false, false, true, false, false, false, false, false] (by kernel_rfl) ?_
    refine tM [1, 5] (by kernel_rfl) rfl ⟨?_, ?_, trivial⟩
    ·refine sA hK hM 11 48 [Str [120], .bool false, .int .i64 0] (fun b => .slice (some ⟨b, 0, none⟩) 1 1) (by kernel_rfl) (by kernel_rfl) fun b3_1 a w hK hM => ?_
     refine tX #[true, true, true, true, true, false, false, true, false, false, false, false, false] (by kernel_rfl) ?_
     refine tM [5] (by kernel_rfl) rfl ⟨?_, trivial⟩
     refine sC hK hM 15 #[.int .i64 7, .agg #[.int .i64 2, .int .i64 0, Str [114], .slice none 0 0], .agg #[.int .i64 1, .int .i64 1, Str [], .slice none 0 0]] (by kernel_rfl) (rC en_cantileverkit_Two rfl rfl (by kernel_rfl)) (kit_Two 7 2 0 1 1 [114] [] none none 0 0 0 0 _) ?_
     rintro b3_5 a w - hK hM
     refine tX #[true, true, true, true, true, true, false, true, false, false, false, false, false] (by kernel_rfl) ?_
     refine tM [6] (by kernel_rfl) rfl ⟨?_, trivial⟩
     refine sA hK hM 16 28 [.int .i64 7, .int .i64 0, Str [], .slice (some ⟨b3_5, 0, none⟩) 2 2] (fun b => .slice (some ⟨b, 0, none⟩) 1 1) (by kernel_rfl) (by kernel_rfl) fun b3_6 a w hK hM => ?_
     refine tX #[true, true, true, true, true, true, true, true, false, false, false, false, false] (by kernel_rfl) ?_
     refine tP hK 8 18 (.agg #[.int .i64 10, Str [], Str [], .int .i64 0, .slice (some ⟨b3_6, 0, none⟩) 1 1, .slice (some ⟨b2_5, 0, none⟩) 1 1, .slice none 0 0]) (by kernel_rfl) (by kernel_rfl) (by kernel_rfl) (fun w => (by kernel_rfl)) #[true, true, true, true, true, true, true, true, true, false, false, false, false] (by kernel_rfl) fun a hK => ?_
     refine tM [9] (by kernel_rfl) rfl ⟨?_, trivial⟩
     refine sA hK hM 19 64 [.int .i64 2, Str [114], Str [120], .int .i64 3, .slice none 0 0, .slice none 0 0, .slice none 0 0, .int .i64 10, Str [], Str [], .int .i64 0, .slice (some ⟨b3_6, 0, none⟩) 1 1, .slice (some ⟨b2_5, 0, none⟩) 1 1, .slice none 0 0] (fun b => .slice (some ⟨b, 0, none⟩) 2 2) (by kernel_rfl) (by kernel_rfl) fun b3_9 a w hK hM => ?_
     refine tX #[true, true, true, true, true, true, true, true, true, true, false, false, false] (by kernel_rfl) ?_
     refine tM [10] (by kernel_rfl) rfl ⟨?_, trivial⟩
     refine sA hK hM 20 38 [.slice (some ⟨b3_9, 0, none⟩) 2 2] (fun b => .slice (some ⟨b, 0, none⟩) 1 1) (by kernel_rfl) (by kernel_rfl) fun b3_10 a w hK hM => ?_
     refine tX #[true, true, true, true, true, true, true, true, true, true, true, false, false] (by kernel_rfl) ?_
     refine tP hK 11 21 (.agg #[.slice (some ⟨b3_1, 0, none⟩) 1 1, .slice (some ⟨b3_10, 0, none⟩) 1 1]) (by kernel_rfl) (by kernel_rfl) (by kernel_rfl) (fun w => (by kernel_rfl)) #[true, true, true, true, true, true, true, true, true, true, true, true, false] (by kernel_rfl) fun a hK => ?_
     refine tM [12] (by kernel_rfl) rfl ⟨?_, trivial⟩
     refine sS hK hM 9 [.slice (some ⟨b3_1, 0, none⟩) 1 1, .slice (some ⟨b3_10, 0, none⟩) 1 1] (by kernel_rfl) rfl rfl rfl rfl (by kernel_rfl) fun w hM => ?_
     replace hM := hM.to [.row b3_10 38 [.slice (some ⟨b3_9, 0, none⟩) 2 2], .row b3_9 64 [.int .i64 2, Str [114], Str [120], .int .i64 3, .slice none 0 0, .slice none 0 0, .slice none 0 0, .int .i64 10, Str [], Str [], .int .i64 0, .slice (some ⟨b3_6, 0, none⟩) 1 1, .slice (some ⟨b2_5, 0, none⟩) 1 1, .slice none 0 0], .row b3_6 28 [.int .i64 7, .int .i64 0, Str [], .slice (some ⟨b3_5, 0, none⟩) 2 2], .row b3_5 28 [.int .i64 2, .int .i64 0, Str [114], .slice none 0 0, .int .i64 1, .int .i64 1, Str [], .slice none 0 0], .row b3_1 48 [Str [120], .bool false, .int .i64 0], .row b2_5 64 [.int .i64 3, Str [], Str [120], .int .i64 4, .slice (some ⟨b2_3, 0, none⟩) 1 1, .slice none 0 0, .slice none 0 0], .row b2_3 28 [.int .i64 14, .int .i64 0, Str [], .slice (some ⟨b2_2, 0, none⟩) 2 2], .row b2_2 28 [.int .i64 2, .int .i64 0, Str [114], .slice none 0 0, .int .i64 1, .int .i64 1, Str [], .slice none 0 0], .row b2 28 [.int .i64 2, .int .i64 0, Str [114], .slice none 0 0], .row b1 25 [.slice (some ⟨b3_1, 0, none⟩) 1 1, .slice (some ⟨b3_10, 0, none⟩) 1 1]] (by kernel_rfl)
     refine tX #[true, true, true, true, true, true, true, true, true, true, true, true, true] (by kernel_rfl) ?_
     exact treeE (by kernel_rfl) ⟨b3_1, b3_10, b3_5, b3_6, b3_9, hK.sub ⟨rfl, rfl, rfl, trivial⟩, hM⟩
    ·refine sC hK hM 15 #[.int .i64 7, .agg #[.int .i64 2, .int .i64 0, Str [114], .slice none 0 0], .agg #[.int .i64 1, .int .i64 1, Str [], .slice none 0 0]] (by kernel_rfl) (rC en_cantileverkit_Two rfl rfl (by kernel_rfl)) (kit_Two 7 2 0 1 1 [114] [] none none 0 0 0 0 _) ?_
     rintro b3_5 a w - hK hM
     refine tX #[true, false, true, true, true, true, false, true, false, false, false, false, false] (by kernel_rfl) ?_
     refine tM [1, 6] (by kernel_rfl) rfl ⟨?_, ?_, trivial⟩
     ·refine sA hK hM 11 48 [Str [120], .bool false, .int .i64 0] (fun b => .slice (some ⟨b, 0, none⟩) 1 1) (by kernel_rfl) (by kernel_rfl) fun b3_1 a w hK hM => ?_
      refine tX #[true, true, true, true, true, true, false, true, false, false, false, false, false] (by kernel_rfl) ?_
      refine tM [6] (by kernel_rfl) rfl ⟨?_, trivial⟩
      refine sA hK hM 16 28 [.int .i64 7, .int .i64 0, Str [], .slice (some ⟨b3_5, 0, none⟩) 2 2] (fun b => .slice (some ⟨b, 0, none⟩) 1 1) (by kernel_rfl) (by kernel_rfl) fun b3_6 a w hK hM => ?_
      refine tX #[true, true, true, true, true, true, true, true, false, false, false, false, false] (by kernel_rfl) ?_
      refine tP hK 8 18 (.agg #[.int .i64 10, Str [], Str [], .int .i64 0, .slice (some ⟨b3_6, 0, none⟩) 1 1, .slice (some ⟨b2_5, 0, none⟩) 1 1, .slice none 0 0]) (by kernel_rfl) (by kernel_rfl) (by kernel_rfl) (fun w => (by kernel_rfl)) #[true, true, true, true, true, true, true, true, true, false, false, false, false] (by kernel_rfl) fun a hK => ?_
      refine tM [9] (by kernel_rfl) rfl ⟨?_, trivial⟩
      refine sA hK hM 19 64 [.int .i64 2, Str [114], Str [120], .int .i64 3, .slice none 0 0, .slice none 0 0, .slice none 0 0, .int .i64 10, Str [], Str [], .int .i64 0, .slice (some ⟨b3_6, 0, none⟩) 1 1, .slice (some ⟨b2_5, 0, none⟩) 1 1, .slice none 0 0] (fun b => .slice (some ⟨b, 0, none⟩) 2 2) (by kernel_rfl) (by kernel_rfl) fun b3_9 a w hK hM => ?_
      refine tX #[true, true, true, true, true, true, true, true, true, true, false, false, false] (by kernel_rfl) ?_
      refine tM [10] (by kernel_rfl) rfl ⟨?_, trivial⟩
      refine sA hK hM 20 38 [.slice (some ⟨b3_9, 0, none⟩) 2 2] (fun b => .slice (some ⟨b, 0, none⟩) 1 1) (by kernel_rfl) (by kernel_rfl) fun b3_10 a w hK hM => ?_
      refine tX #[true, true, true, true, true, true, true, true, true, true, true, false, false] (by kernel_rfl) ?_
      refine tP hK 11 21 (.agg #[.slice (some ⟨b3_1, 0, none⟩) 1 1, .slice (some ⟨b3_10, 0, none⟩) 1 1]) (by kernel_rfl) (by kernel_rfl) (by kernel_rfl) (fun w => (by kernel_rfl)) #[true, true, true, true, true, true, true, true, true, true, true, true, false] (by kernel_rfl) fun a hK => ?_
      refine tM [12] (by kernel_rfl) rfl ⟨?_, trivial⟩
      refine sS hK hM 9 [.slice (some ⟨b3_1, 0, none⟩) 1 1, .slice (some ⟨b3_10, 0, none⟩) 1 1] (by kernel_rfl) rfl rfl rfl rfl (by kernel_rfl) fun w hM => ?_
      replace hM := hM.to [.row b3_10 38 [.slice (some ⟨b3_9, 0, none⟩) 2 2], .row b3_9 64 [.int .i64 2, Str [114], Str [120], .int .i64 3, .slice none 0 0, .slice none 0 0, .slice none 0 0, .int .i64 10, Str [], Str [], .int .i64 0, .slice (some ⟨b3_6, 0, none⟩) 1 1, .slice (some ⟨b2_5, 0, none⟩) 1 1, .slice none 0 0], .row b3_6 28 [.int .i64 7, .int .i64 0, Str [], .slice (some ⟨b3_5, 0, none⟩) 2 2], .row b3_1 48 [Str [120], .bool false, .int .i64 0], .row b3_5 28 [.int .i64 2, .int .i64 0, Str [114], .slice none 0 0, .int .i64 1, .int .i64 1, Str [], .slice none 0 0], .row b2_5 64 [.int .i64 3, Str [], Str [120], .int .i64 4, .slice (some ⟨b2_3, 0, none⟩) 1 1, .slice none 0 0, .slice none 0 0], .row b2_3 28 [.int .i64 14, .int .i64 0, Str [], .slice (some ⟨b2_2, 0, none⟩) 2 2], .row b2_2 28 [.int .i64 2, .int .i64 0, Str [114], .slice none 0 0, .int .i64 1, .int .i64 1, Str [], .slice none 0 0], .row b2 28 [.int .i64 2, .int .i64 0, Str [114], .slice none 0 0], .row b1 25 [.slice (some ⟨b3_1, 0, none⟩) 1 1, .slice (some ⟨b3_10, 0, none⟩) 1 1]] (by kernel_rfl)
      refine tX #[true, true, true, true, true, true, true, true, true, true, true, true, true] (by kernel_rfl) ?_
      exact treeE (by kernel_rfl) ⟨b3_1, b3_10, b3_5, b3_6, b3_9, hK.sub ⟨rfl, rfl, rfl, trivial⟩, (hM.order [[.row b3_10 38 [.slice (some ⟨b3_9, 0, none⟩) 2 2]], [.row b3_9 64 [.int .i64 2, Str [114], Str [120], .int .i64 3, .slice none 0 0, .slice none 0 0, .slice none 0 0, .int .i64 10, Str [], Str [], .int .i64 0, .slice (some ⟨b3_6, 0, none⟩) 1 1, .slice (some ⟨b2_5, 0, none⟩) 1 1, .slice none 0 0]], [.row b3_6 28 [.int .i64 7, .int .i64 0, Str [], .slice (some ⟨b3_5, 0, none⟩) 2 2]], [.row b3_1 48 [Str [120], .bool false, .int .i64 0]], [.row b3_5 28 [.int .i64 2, .int .i64 0, Str [114], .slice none 0 0, .int .i64 1, .int .i64 1, Str [], .slice none 0 0]], [.row b2_5 64 [.int .i64 3, Str [], Str [120], .int .i64 4, .slice (some ⟨b2_3, 0, none⟩) 1 1, .slice none 0 0, .slice none 0 0]], [.row b2_3 28 [.int .i64 14, .int .i64 0, Str [], .slice (some ⟨b2_2, 0, none⟩) 2 2]], [.row b2_2 28 [.int .i64 2, .int .i64 0, Str [114], .slice none 0 0, .int .i64 1, .int .i64 1, Str [], .slice none 0 0]], [.row b2 28 [.int .i64 2, .int .i64 0, Str [114], .slice none 0 0]], [.row b1 25 [.slice (some ⟨b3_1, 0, none⟩) 1 1, .slice (some ⟨b3_10, 0, none⟩) 1 1]]] [0, 1, 2, 4, 3, 5, 6, 7, 8, 9] 10 rfl (by simp) (by decide) _ (by simp))⟩
     ·refine sA hK hM 16 28 [.int .i64 7, .int .i64 0, Str [], .slice (some ⟨b3_5, 0, none⟩) 2 2] (fun b => .slice (some ⟨b, 0, none⟩) 1 1) (by kernel_rfl) (by kernel_rfl) fun b3_6 a w hK hM => ?_
      refine tX #[true, false, true, true, true, true, true, true, false, false, false, false, false] (by kernel_rfl) ?_
      refine tP hK 8 18 (.agg #[.int .i64 10, Str [], Str [], .int .i64 0, .slice (some ⟨b3_6, 0, none⟩) 1 1, .slice (some ⟨b2_5, 0, none⟩) 1 1, .slice none 0 0]) (by kernel_rfl) (by kernel_rfl) (by kernel_rfl) (fun w => (by kernel_rfl)) #[true, false, true, true, true, true, true, true, true, false, false, false, false] (by kernel_rfl) fun a hK => ?_
      refine tM [1, 9] (by kernel_rfl) rfl ⟨?_, ?_, trivial⟩
      ·refine sA hK hM 11 48 [Str [120], .bool false, .int .i64 0] (fun b => .slice (some ⟨b, 0, none⟩) 1 1) (by kernel_rfl) (by kernel_rfl) fun b3_1 a w hK hM => ?_
       refine tX #[true, true, true, true, true, true, true, true, true, false, false, false, false] (by kernel_rfl) ?_
       refine tM [9] (by kernel_rfl) rfl ⟨?_, trivial⟩
       refine sA hK hM 19 64 [.int .i64 2, Str [114], Str [120], .int .i64 3, .slice none 0 0, .slice none 0 0, .slice none 0 0, .int .i64 10, Str [], Str [], .int .i64 0, .slice (some ⟨b3_6, 0, none⟩) 1 1, .slice (some ⟨b2_5, 0, none⟩) 1 1, .slice none 0 0] (fun b => .slice (some ⟨b, 0, none⟩) 2 2) (by kernel_rfl) (by kernel_rfl) fun b3_9 a w hK hM => ?_
       refine tX #[true, true, true, true, true, true, true, true, true, true, false, false, false] (by kernel_rfl) ?_
       refine tM [10] (by kernel_rfl) rfl ⟨?_, trivial⟩
       refine sA hK hM 20 38 [.slice (some ⟨b3_9, 0, none⟩) 2 2] (fun b => .slice (some ⟨b, 0, none⟩) 1 1) (by kernel_rfl) (by kernel_rfl) fun b3_10 a w hK hM => ?_
       refine tX #[true, true, true, true, true, true, true, true, true, true, true, false, false] (by kernel_rfl) ?_
       refine tP hK 11 21 (.agg #[.slice (some ⟨b3_1, 0, none⟩) 1 1, .slice (some ⟨b3_10, 0, none⟩) 1 1]) (by kernel_rfl) (by kernel_rfl) (by kernel_rfl) (fun w => (by kernel_rfl)) #[true, true, true, true, true, true, true, true, true, true, true, true, false] (by kernel_rfl) fun a hK => ?_
       refine tM [12] (by kernel_rfl) rfl ⟨?_, trivial⟩
       refine sS hK hM 9 [.slice (some ⟨b3_1, 0, none⟩) 1 1, .slice (some ⟨b3_10, 0, none⟩) 1 1] (by kernel_rfl) rfl rfl rfl rfl (by kernel_rfl) fun w hM => ?_
       replace hM := hM.to [.row b3_10 38 [.slice (some ⟨b3_9, 0, none⟩) 2 2], .row b3_9 64 [.int .i64 2, Str [114], Str [120], .int .i64 3, .slice none 0 0, .slice none 0 0, .slice none 0 0, .int .i64 10, Str [], Str [], .int .i64 0, .slice (some ⟨b3_6, 0, none⟩) 1 1, .slice (some ⟨b2_5, 0, none⟩) 1 1, .slice none 0 0], .row b3_1 48 [Str [120], .bool false, .int .i64 0], .row b3_6 28 [.int .i64 7, .int .i64 0, Str [], .slice (some ⟨b3_5, 0, none⟩) 2 2], .row b3_5 28 [.int .i64 2, .int .i64 0, Str [114], .slice none 0 0, .int .i64 1, .int .i64 1, Str [], .slice none 0 0], .row b2_5 64 [.int .i64 3, Str [], Str [120], .int .i64 4, .slice (some ⟨b2_3, 0, none⟩) 1 1, .slice none 0 0, .slice none 0 0], .row b2_3 28 [.int .i64 14, .int .i64 0, Str [], .slice (some ⟨b2_2, 0, none⟩) 2 2], .row b2_2 28 [.int .i64 2, .int .i64 0, Str [114], .slice none 0 0, .int .i64 1, .int .i64 1, Str [], .slice none 0 0], .row b2 28 [.int .i64 2, .int .i64 0, Str [114], .slice none 0 0], .row b1 25 [.slice (some ⟨b3_1, 0, none⟩) 1 1, .slice (some ⟨b3_10, 0, none⟩) 1 1]] (by kernel_rfl)
       refine tX #[true, true, true, true, true, true, true, true, true, true, true, true, true] (by kernel_rfl) ?_
       exact treeE (by kernel_rfl) ⟨b3_1, b3_10, b3_5, b3_6, b3_9, hK.sub ⟨rfl, rfl, rfl, trivial⟩, (hM.order [[.row b3_10 38 [.slice (some ⟨b3_9, 0, none⟩) 2 2]], [.row b3_9 64 [.int .i64 2, Str [114], Str [120], .int .i64 3, .slice none 0 0, .slice none 0 0, .slice none 0 0, .int .i64 10, Str [], Str [], .int .i64 0, .slice (some ⟨b3_6, 0, none⟩) 1 1, .slice (some ⟨b2_5, 0, none⟩) 1 1, .slice none 0 0]], [.row b3_1 48 [Str [120], .bool false, .int .i64 0]], [.row b3_6 28 [.int .i64 7, .int .i64 0, Str [], .slice (some ⟨b3_5, 0, none⟩) 2 2]], [.row b3_5 28 [.int .i64 2, .int .i64 0, Str [114], .slice none 0 0, .int .i64 1, .int .i64 1, Str [], .slice none 0 0]], [.row b2_5 64 [.int .i64 3, Str [], Str [120], .int .i64 4, .slice (some ⟨b2_3, 0, none⟩) 1 1, .slice none 0 0, .slice none 0 0]], [.row b2_3 28 [.int .i64 14, .int .i64 0, Str [], .slice (some ⟨b2_2, 0, none⟩) 2 2]], [.row b2_2 28 [.int .i64 2, .int .i64 0, Str [114], .slice none 0 0, .int .i64 1, .int .i64 1, Str [], .slice none 0 0]], [.row b2 28 [.int .i64 2, .int .i64 0, Str [114], .slice none 0 0]], [.row b1 25 [.slice (some ⟨b3_1, 0, none⟩) 1 1, .slice (some ⟨b3_10, 0, none⟩) 1 1]]] [0, 1, 3, 4, 2, 5, 6, 7, 8, 9] 10 rfl (by simp) (by decide) _ (by simp))⟩
      ·refine sA hK hM 19 64 [.int .i64 2, Str [114], Str [120], .int .i64 3, .slice none 0 0, .slice none 0 0, .slice none 0 0, .int .i64 10, Str [], Str [], .int .i64 0, .slice (some ⟨b3_6, 0, none⟩) 1 1, .slice (some ⟨b2_5, 0, none⟩) 1 1, .slice none 0 0] (fun b => .slice (some ⟨b, 0, none⟩) 2 2) (by kernel_rfl) (by kernel_rfl) fun b3_9 a w hK hM => ?_
       refine tX #[true, false, true, true, true, true, true, true, true, true, false, false, false] (by kernel_rfl) ?_
       refine tM [1, 10] (by kernel_rfl) rfl ⟨?_, ?_, trivial⟩
       ·refine sA hK hM 11 48 [Str [120], .bool false, .int .i64 0] (fun b => .slice (some ⟨b, 0, none⟩) 1 1) (by kernel_rfl) (by kernel_rfl) fun b3_1 a w hK hM => ?_
        refine tX #[true, true, true, true, true, true, true, true, true, true, false, false, false] (by kernel_rfl) ?_
        refine tM [10] (by kernel_rfl) rfl ⟨?_, trivial⟩
        refine sA hK hM 20 38 [.slice (some ⟨b3_9, 0, none⟩) 2 2] (fun b => .slice (some ⟨b, 0, none⟩) 1 1) (by kernel_rfl) (by kernel_rfl) fun b3_10 a w hK hM => ?_
        refine tX #[true, true, true, true, true, true, true, true, true, true, true, false, false] (by kernel_rfl) ?_
        refine tP hK 11 21 (.agg #[.slice (some ⟨b3_1, 0, none⟩) 1 1, .slice (some ⟨b3_10, 0, none⟩) 1 1]) (by kernel_rfl) (by kernel_rfl) (by kernel_rfl) (fun w => (by kernel_rfl)) #[true, true, true, true, true, true, true, true, true, true, true, true, false] (by kernel_rfl) fun a hK => ?_
        refine tM [12] (by kernel_rfl) rfl ⟨?_, trivial⟩
        refine sS hK hM 9 [.slice (some ⟨b3_1, 0, none⟩) 1 1, .slice (some ⟨b3_10, 0, none⟩) 1 1] (by kernel_rfl) rfl rfl rfl rfl (by kernel_rfl) fun w hM => ?_
        replace hM := hM.to [.row b3_10 38 [.slice (some ⟨b3_9, 0, none⟩) 2 2], .row b3_1 48 [Str [120], .bool false, .int .i64 0], .row b3_9 64 [.int .i64 2, Str [114], Str [120], .int .i64 3, .slice none 0 0, .slice none 0 0, .slice none 0 0, .int .i64 10, Str [], Str [], .int .i64 0, .slice (some ⟨b3_6, 0, none⟩) 1 1, .slice (some ⟨b2_5, 0, none⟩) 1 1, .slice none 0 0], .row b3_6 28 [.int .i64 7, .int .i64 0, Str [], .slice (some ⟨b3_5, 0, none⟩) 2 2], .row b3_5 28 [.int .i64 2, .int .i64 0, Str [114], .slice none 0 0, .int .i64 1, .int .i64 1, Str [], .slice none 0 0], .row b2_5 64 [.int .i64 3, Str [], Str [120], .int .i64 4, .slice (some ⟨b2_3, 0, none⟩) 1 1, .slice none 0 0, .slice none 0 0], .row b2_3 28 [.int .i64 14, .int .i64 0, Str [], .slice (some ⟨b2_2, 0, none⟩) 2 2], .row b2_2 28 [.int .i64 2, .int .i64 0, Str [114], .slice none 0 0, .int .i64 1, .int .i64 1, Str [], .slice none 0 0], .row b2 28 [.int .i64 2, .int .i64 0, Str [114], .slice none 0 0], .row b1 25 [.slice (some ⟨b3_1, 0, none⟩) 1 1, .slice (some ⟨b3_10, 0, none⟩) 1 1]] (by kernel_rfl)
        refine tX #[true, true, true, true, true, true, true, true, true, true, true, true, true] (by kernel_rfl) ?_
        exact treeE (by kernel_rfl) ⟨b3_1, b3_10, b3_5, b3_6, b3_9, hK.sub ⟨rfl, rfl, rfl, trivial⟩, (hM.order [[.row b3_10 38 [.slice (some ⟨b3_9, 0, none⟩) 2 2]], [.row b3_1 48 [Str [120], .bool false, .int .i64 0]], [.row b3_9 64 [.int .i64 2, Str [114], Str [120], .int .i64 3, .slice none 0 0, .slice none 0 0, .slice none 0 0, .int .i64 10, Str [], Str [], .int .i64 0, .slice (some ⟨b3_6, 0, none⟩) 1 1, .slice (some ⟨b2_5, 0, none⟩) 1 1, .slice none 0 0]], [.row b3_6 28 [.int .i64 7, .int .i64 0, Str [], .slice (some ⟨b3_5, 0, none⟩) 2 2]], [.row b3_5 28 [.int .i64 2, .int .i64 0, Str [114], .slice none 0 0, .int .i64 1, .int .i64 1, Str [], .slice none 0 0]], [.row b2_5 64 [.int .i64 3, Str [], Str [120], .int .i64 4, .slice (some ⟨b2_3, 0, none⟩) 1 1, .slice none 0 0, .slice none 0 0]], [.row b2_3 28 [.int .i64 14, .int .i64 0, Str [], .slice (some ⟨b2_2, 0, none⟩) 2 2]], [.row b2_2 28 [.int .i64 2, .int .i64 0, Str [114], .slice none 0 0, .int .i64 1, .int .i64 1, Str [], .slice none 0 0]], [.row b2 28 [.int .i64 2, .int .i64 0, Str [114], .slice none 0 0]], [.row b1 25 [.slice (some ⟨b3_1, 0, none⟩) 1 1, .slice (some ⟨b3_10, 0, none⟩) 1 1]]] [0, 2, 3, 4, 1, 5, 6, 7, 8, 9] 10 rfl (by simp) (by decide) _ (by simp))⟩
       ·refine sA hK hM 20 38 [.slice (some ⟨b3_9, 0, none⟩) 2 2] (fun b => .slice (some ⟨b, 0, none⟩) 1 1) (by kernel_rfl) (by kernel_rfl) fun b3_10 a w hK hM => ?_
        refine tX #[true, false, true, true, true, true, true, true, true, true, true, false, false] (by kernel_rfl) ?_
        refine tM [1] (by kernel_rfl) rfl ⟨?_, trivial⟩
        refine sA hK hM 11 48 [Str [120], .bool false, .int .i64 0] (fun b => .slice (some ⟨b, 0, none⟩) 1 1) (by kernel_rfl) (by kernel_rfl) fun b3_1 a w hK hM => ?_
        refine tX #[true, true, true, true, true, true, true, true, true, true, true, false, false] (by kernel_rfl) ?_
        refine tP hK 11 21 (.agg #[.slice (some ⟨b3_1, 0, none⟩) 1 1, .slice (some ⟨b3_10, 0, none⟩) 1 1]) (by kernel_rfl) (by kernel_rfl) (by kernel_rfl) (fun w => (by kernel_rfl)) #[true, true, true, true, true, true, true, true, true, true, true, true, false] (by kernel_rfl) fun a hK => ?_
        refine tM [12] (by kernel_rfl) rfl ⟨?_, trivial⟩
        refine sS hK hM 9 [.slice (some ⟨b3_1, 0, none⟩) 1 1, .slice (some ⟨b3_10, 0, none⟩) 1 1] (by kernel_rfl) rfl rfl rfl rfl (by kernel_rfl) fun w hM => ?_
        replace hM := hM.to [.row b3_1 48 [Str [120], .bool false, .int .i64 0], .row b3_10 38 [.slice (some ⟨b3_9, 0, none⟩) 2 2], .row b3_9 64 [.int .i64 2, Str [114], Str [120], .int .i64 3, .slice none 0 0, .slice none 0 0, .slice none 0 0, .int .i64 10, Str [], Str [], .int .i64 0, .slice (some ⟨b3_6, 0, none⟩) 1 1, .slice (some ⟨b2_5, 0, none⟩) 1 1, .slice none 0 0], .row b3_6 28 [.int .i64 7, .int .i64 0, Str [], .slice (some ⟨b3_5, 0, none⟩) 2 2], .row b3_5 28 [.int .i64 2, .int .i64 0, Str [114], .slice none 0 0, .int .i64 1, .int .i64 1, Str [], .slice none 0 0], .row b2_5 64 [.int .i64 3, Str [], Str [120], .int .i64 4, .slice (some ⟨b2_3, 0, none⟩) 1 1, .slice none 0 0, .slice none 0 0], .row b2_3 28 [.int .i64 14, .int .i64 0, Str [], .slice (some ⟨b2_2, 0, none⟩) 2 2], .row b2_2 28 [.int .i64 2, .int .i64 0, Str [114], .slice none 0 0, .int .i64 1, .int .i64 1, Str [], .slice none 0 0], .row b2 28 [.int .i64 2, .int .i64 0, Str [114], .slice none 0 0], .row b1 25 [.slice (some ⟨b3_1, 0, none⟩) 1 1, .slice (some ⟨b3_10, 0, none⟩) 1 1]] (by kernel_rfl)
        refine tX #[true, true, true, true, true, true, true, true, true, true, true, true, true] (by kernel_rfl) ?_
        exact treeE (by kernel_rfl) ⟨b3_1, b3_10, b3_5, b3_6, b3_9, hK.sub ⟨rfl, rfl, rfl, trivial⟩, (hM.order [[.row b3_1 48 [Str [120], .bool false, .int .i64 0]], [.row b3_10 38 [.slice (some ⟨b3_9, 0, none⟩) 2 2]], [.row b3_9 64 [.int .i64 2, Str [114], Str [120], .int .i64 3, .slice none 0 0, .slice none 0 0, .slice none 0 0, .int .i64 10, Str [], Str [], .int .i64 0, .slice (some ⟨b3_6, 0, none⟩) 1 1, .slice (some ⟨b2_5, 0, none⟩) 1 1, .slice none 0 0]], [.row b3_6 28 [.int .i64 7, .int .i64 0, Str [], .slice (some ⟨b3_5, 0, none⟩) 2 2]], [.row b3_5 28 [.int .i64 2, .int .i64 0, Str [114], .slice none 0 0, .int .i64 1, .int .i64 1, Str [], .slice none 0 0]], [.row b2_5 64 [.int .i64 3, Str [], Str [120], .int .i64 4, .slice (some ⟨b2_3, 0, none⟩) 1 1, .slice none 0 0, .slice none 0 0]], [.row b2_3 28 [.int .i64 14, .int .i64 0, Str [], .slice (some ⟨b2_2, 0, none⟩) 2 2]], [.row b2_2 28 [.int .i64 2, .int .i64 0, Str [114], .slice none 0 0, .int .i64 1, .int .i64 1, Str [], .slice none 0 0]], [.row b2 28 [.int .i64 2, .int .i64 0, Str [114], .slice none 0 0]], [.row b1 25 [.slice (some ⟨b3_1, 0, none⟩) 1 1, .slice (some ⟨b3_10, 0, none⟩) 1 1]]] [1, 2, 3, 4, 0, 5, 6, 7, 8, 9] 10 rfl (by simp) (by decide) _ (by simp))⟩
 rintro a w ⟨b3_1, b3_10, b3_5, b3_6, b3_9, hK, hM⟩
 refine wp_ret ?_
 exact ret_c hK rfl rfl ((hM.row 9 rfl).cells 0 2) (u := (.agg #[.slice (some ⟨b3_1, 0, none⟩) 1 1, .slice (some ⟨b3_10, 0, none⟩) 1 1])) (by kernel_rfl) (⟨(b2_2, b2_3, b2_5, b3_1, b3_5, b3_6, b3_9, b3_10), rfl, (((hM.order [[.row b3_10 38 [.slice (some ⟨b3_9, 0, none⟩) 2 2]], [.row b3_9 64 [.int .i64 2, Str [114], Str [120], .int .i64 3, .slice none 0 0, .slice none 0 0, .slice none 0 0, .int .i64 10, Str [], Str [], .int .i64 0, .slice (some ⟨b3_6, 0, none⟩) 1 1, .slice (some ⟨b2_5, 0, none⟩) 1 1, .slice none 0 0]], [.row b3_6 28 [.int .i64 7, .int .i64 0, Str [], .slice (some ⟨b3_5, 0, none⟩) 2 2]], [.row b3_5 28 [.int .i64 2, .int .i64 0, Str [114], .slice none 0 0, .int .i64 1, .int .i64 1, Str [], .slice none 0 0]], [.row b3_1 48 [Str [120], .bool false, .int .i64 0]], [.row b2_5 64 [.int .i64 3, Str [], Str [120], .int .i64 4, .slice (some ⟨b2_3, 0, none⟩) 1 1, .slice none 0 0, .slice none 0 0]], [.row b2_3 28 [.int .i64 14, .int .i64 0, Str [], .slice (some ⟨b2_2, 0, none⟩) 2 2]], [.row b2_2 28 [.int .i64 2, .int .i64 0, Str [114], .slice none 0 0, .int .i64 1, .int .i64 1, Str [], .slice none 0 0]], [.row b2 28 [.int .i64 2, .int .i64 0, Str [114], .slice none 0 0]], [.row b1 25 [.slice (some ⟨b3_1, 0, none⟩) 1 1, .slice (some ⟨b3_10, 0, none⟩) 1 1]]] [8, 9, 7, 6, 5, 4, 3, 2, 1, 0] 10 rfl (by simp) (by decide) ([.row b2 28 [.int .i64 2, .int .i64 0, Str [114], .slice none 0 0], .row b1 25 [.slice (some ⟨b3_1, 0, none⟩) 1 1, .slice (some ⟨b3_10, 0, none⟩) 1 1], .row b2_2 28 [.int .i64 2, .int .i64 0, Str [114], .slice none 0 0, .int .i64 1, .int .i64 1, Str [], .slice none 0 0], .row b2_3 28 [.int .i64 14, .int .i64 0, Str [], .slice (some ⟨b2_2, 0, none⟩) 2 2], .row b2_5 64 [.int .i64 3, Str [], Str [120], .int .i64 4, .slice (some ⟨b2_3, 0, none⟩) 1 1, .slice none 0 0, .slice none 0 0], .row b3_1 48 [Str [120], .bool false, .int .i64 0], .row b3_5 28 [.int .i64 2, .int .i64 0, Str [114], .slice none 0 0, .int .i64 1, .int .i64 1, Str [], .slice none 0 0], .row b3_6 28 [.int .i64 7, .int .i64 0, Str [], .slice (some ⟨b3_5, 0, none⟩) 2 2], .row b3_9 64 [.int .i64 2, Str [114], Str [120], .int .i64 3, .slice none 0 0, .slice none 0 0, .slice none 0 0, .int .i64 10, Str [], Str [], .int .i64 0, .slice (some ⟨b3_6, 0, none⟩) 1 1, .slice (some ⟨b2_5, 0, none⟩) 1 1, .slice none 0 0], .row b3_10 38 [.slice (some ⟨b3_9, 0, none⟩) 2 2]]) (by simp))).drop 2).to _ (by kernel_rfl), trivial⟩)
end Go.Proofs.YtiigncmpbkfhmaaGreatDoor
