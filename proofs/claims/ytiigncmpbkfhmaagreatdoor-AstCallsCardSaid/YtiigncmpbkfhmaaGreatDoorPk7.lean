/-
  What AstCallsCard stands on, part 7.
-/
import Derived.Test.YtiigncmpbkfhmaaGreatDoorPk6
namespace Go.Proofs.YtiigncmpbkfhmaaGreatDoor
open Go Go.RowKit Go.Maps Go.Sort Go.Shelf Go.MapKept Go.ChangeMaps
def noteL (s : List UInt8) (ks : List (List UInt8)) : List (List UInt8) := if s = [] then ks else if ks.contains s = true then ks else ks ++ [s]
def setObjS (ks : List (List UInt8)) : Obj := .map (setEs 0 ks).toArray ks.length
theorem setEs_length (ks : List (List UInt8)) : ∀ i, (setEs i ks).length = ks.length := by
  induction ks with
  | nil => intro i; rfl
  | cons k ks ih => intro i; rw [setEs, List.length_cons, List.length_cons, ih]
theorem setEs_snoc (ks : List (List UInt8)) (s : List UInt8) : ∀ i, setEs i (ks ++ [s]) = setEs i ks ++ [⟨Str s, .agg #[], i + ks.length⟩] := by
  induction ks with
  | nil => intro i; rfl
  | cons k ks ih => intro i; rw [List.cons_append, setEs, setEs, ih, List.length_cons, List.cons_append, show i + 1 + ks.length = i + (ks.length + 1) by omega]
theorem setEs_keys (ks : List (List UInt8)) : ∀ i, (setEs i ks).map (·.key) = ks.map Str := by
  induction ks with
  | nil => intro i; rfl
  | cons k ks ih => intro i; rw [setEs, List.map_cons, List.map_cons, ih]
theorem setEs_vals (ks : List (List UInt8)) : ∀ i, ∀ x ∈ setEs i ks, x.val = .agg #[] ∧ ∃ s ∈ ks, x.key = Str s := by
  induction ks with
  | nil => intro i x hx; cases hx
  | cons k ks ih =>
    intro i x hx
    rw [setEs] at hx
    rcases List.mem_cons.1 hx with rfl | hx
    · exact ⟨rfl, k, List.mem_cons_self, rfl⟩
    · obtain ⟨h1, s, h2, h3⟩ := ih _ x hx; exact ⟨h1, s, List.mem_cons_of_mem _ h2, h3⟩
theorem setEs_get (ks : List (List UInt8)) : ∀ (i j : Nat) (s : List UInt8), ks[j]? = some s → (setEs i ks)[j]? = some ⟨Str s, .agg #[], i + j⟩ := by
  induction ks with
  | nil => intro i j s h; simp at h
  | cons k ks ih =>
    intro i j s h
    cases j with
    | zero => obtain rfl := Option.some.inj h; rfl
    | succ j => rw [setEs, List.getElem?_cons_succ, ih (i + 1) j s (by simpa using h), show i + 1 + j = i + (j + 1) by omega]
theorem set_at : ∀ (ks : List (List UInt8)) (l : List UInt8) (i : Nat), ks.contains l = true → ∃ j, Instr.findNow .string (Str l) (setEs i ks) i = some (some (i + j, .agg #[])) ∧ ks[j]? = some l := by
  intro ks
  induction ks with
  | nil => intro l i h; cases h
  | cons k ks ih =>
    intro l i h
    unfold setEs Instr.findNow
    simp only [same_str]
    cases hk : (l == k) with
    | true => exact ⟨0, rfl, by simp at hk; rw [hk]; rfl⟩
    | false =>
      rw [List.contains_cons, hk, Bool.false_or] at h
      obtain ⟨j, h1, h2⟩ := ih l (i + 1) h
      exact ⟨j + 1, by rw [show i + (j + 1) = i + 1 + j by omega]; exact h1, h2⟩
theorem noteL_nodup {s : List UInt8} {ks : List (List UInt8)} (h : ks.Nodup) : (noteL s ks).Nodup := by
  unfold noteL
  split
  · exact h
  · split
    · exact h
    · rename_i h1 h2
      rw [List.nodup_append]
      exact ⟨h, by simp, fun a ha b hb e => by simp at hb; subst hb; subst e; exact h2 (by simpa using ha)⟩
section
variable {o : Oper} {ρ : Operand → Value} {w : World}
theorem run_keyStays {P : Program} (k : ByteArray) (w : World) : (Instr.keyThatStays (.string k) (.string k)).run P w = .ok (.string k) w := by
  have h : Instr.sameBits 10000 (.string k) (.string k) = true := by
    show (k == k) = true
    first
      | exact beq_self_eq_true k
      | (show (k.data == k.data) = true; simp)
  simp [Instr.keyThatStays, h]
theorem run_updS {m k v : Operand} {b : Nat} {ks : List (List UInt8)} {s : List UInt8} (hop : o.op = .mapUpdate 59 m k v) (hm : ρ m = .map (some b)) (hk : ρ k = Str s) (hv : ρ v = .agg #[]) (hs : s ≠ []) (hh : w.heap[b]? = some (setObjS ks)) : (execOp ρ o).run Tryz.prog w = .ok .skip (putObj w b (setObjS (noteL s ks))) := by
  have hmt := Tryz.underlying59
  have hkt := Tryz.underlying9
  unfold noteL
  rw [if_neg hs]
  unfold setObjS at hh
  cases hc : ks.contains s with
  | false =>
    have hf : Instr.findNow .string (.string ⟨s.toArray⟩) (setEs 0 ks).toArray.toList 0 = some none := set_no ks s 0 hc
    rw [if_neg (by decide)]
    have e : setObjS (ks ++ [s]) = .map ((setEs 0 ks).toArray.push ⟨.string ⟨s.toArray⟩, .agg #[], ks.length⟩) (ks.length + 1) := by
      unfold setObjS; rw [setEs_snoc, List.length_append, Nat.zero_add]; simp [Str]
    rw [e]
    simp [execOp, hop, hm, hk, hv, Str, Instr.mapUpdate, run_underlying hmt, getObj, setObj, Sem.run, hh, run_checkS hkt, run_findS hkt hf, putObj]
  | true =>
    obtain ⟨j, hj, hg⟩ := set_at ks s 0 hc
    rw [Nat.zero_add] at hj
    have hf : Instr.findNow .string (.string ⟨s.toArray⟩) (setEs 0 ks).toArray.toList 0 = some (some (j, .agg #[])) := hj
    have hge : (setEs 0 ks)[j]? = some ⟨Str s, .agg #[], 0 + j⟩ := setEs_get ks 0 j s hg
    rw [if_pos rfl]
    have hlt : j < (setEs 0 ks).length := (List.getElem?_eq_some_iff.1 hge).1
    have hmodL : (setEs 0 ks).modify j (fun e => { e with key := .string ⟨s.toArray⟩, val := .agg #[] }) = setEs 0 ks := by
      apply List.ext_getElem?
      intro q
      rw [List.getElem?_modify]
      split
      · rename_i hq
        subst hq
        rw [hge]; rfl
      · cases (setEs 0 ks)[q]? <;> rfl
    simp only [execOp, hop, hm, hk, hv, Str]
    have hrun : (Instr.mapUpdate 59 (.map (some b)) (.string ⟨s.toArray⟩) (.agg #[])).run Tryz.prog w = .ok () (putObj w b (setObjS ks)) := by
      unfold Instr.mapUpdate
      simp [run_underlying hmt, getObj, setObj, Sem.run, hh, run_checkS hkt, run_findS hkt hf, hge, Str]
      have hks := run_keyStays (P := Tryz.prog) ⟨s.toArray⟩ w
      simp only [hks, putObj, setObjS, hh, hmodL]
      simp [hks, hh, hmodL]
    simp [hrun, Result.andThen]
end
theorem keyOf_str_mk' {s : List UInt8} (hs : s.length ≤ 65536) : keyOf Tryz.prog 9 (Str s) = some (.string s) := by
  rw [keyOf_string Tryz.underlying9]
  have h : s.length ≤ maxLen := by unfold maxLen; omega
  simp [mapKey, Str]
  show s.toArray.size ≤ maxLen
  simpa using h
abbrev RU : Value → Option (DataW Unit × List MemPlace) := fun _ => some (.agg [], [])
theorem Str_inj {x y : List UInt8} (h : Str x = Str y) : x = y := by simpa [Str] using h
theorem set_owns {w : World} {b : Nat} {ks : List (List UInt8)} (hh : w.heap[b]? = some (setObjS ks)) (hn : ks.Nodup) (hl : ks.length ≤ 1000000) (hs : ∀ k ∈ ks, k.length ≤ 65536) :
    ∃ D : DataW Unit, w.ownsMap Tryz.prog 9 RU b ks.length D ∧ (strKeys D).Perm ks ∧ Maps.size D = ks.length := by
  have hrd : ∀ x ∈ setEs 0 ks, ∃ s ∈ ks, x.key = Str s ∧ WideElems.rd Tryz.prog 9 RU x = some (.string s, .agg []) := by
    intro x hx
    obtain ⟨h1, s, h2, h3⟩ := setEs_vals ks 0 x hx
    obtain ⟨k, v, bo⟩ := x
    simp only at h1 h3
    subst h1 h3
    exact ⟨s, h2, rfl, WideElems.rd_mk (R := RU) (yv := (.agg [], [])) (keyOf_str_mk' (hs s h2)) rfl⟩
  have hborn : ∀ (ks : List (List UInt8)) (i : Nat), (setEs i ks).map (·.born) = (List.range ks.length).map (i + ·) := by
    intro ks
    induction ks with
    | nil => intro i; rfl
    | cons k ks ih =>
      intro i
      rw [setEs, List.map_cons, ih, List.length_cons, List.range_succ_eq_map, List.map_cons, List.map_map]
      congr 1
      apply List.map_congr_left
      intro j _
      show i + 1 + j = i + (j + 1); omega
  have hfit : WideElems.Fit Tryz.prog 9 RU (setEs 0 ks).toArray ks.length := by
    refine ⟨by rw [List.size_toArray, setEs_length]; unfold maxLen; omega, (stamped_iff _ _).2 ⟨?_, ?_, ?_⟩, ?_⟩
    · intro x hx
      have : x.born ∈ (setEs 0 ks).map (·.born) := List.mem_map_of_mem hx
      rw [hborn] at this
      simp at this; exact this
    · show ((setEs 0 ks).map (·.born)).Nodup
      rw [hborn]
      simpa using List.nodup_range
    · have h2 : ((setEs 0 ks).map (·.key)).Pairwise (· ≠ ·) := by
        rw [setEs_keys, List.pairwise_map]
        exact hn.imp fun h e => h (Str_inj e)
      rwa [List.pairwise_map] at h2
    · intro x hx
      obtain ⟨s, _, _, h⟩ := hrd x hx
      exact ⟨_, h⟩
  refine ⟨_, ⟨_, _, hh, hfit, by rw [List.size_toArray, setEs_length]; exact Nat.le_refl _, rfl⟩, ?_, ?_⟩
  · have h1 := (WideShapes.sorted_perm (((setEs 0 ks).toArray.toList).map (WideElems.rg Tryz.prog 9 RU))).map fun p => strOf p.1
    refine h1.trans ?_
    rw [List.map_map]
    have h2 : ((setEs 0 ks).toArray.toList).map ((fun p : Lit × DataW Unit => strOf p.1) ∘ WideElems.rg Tryz.prog 9 RU) = ks := by
      have h3 : ∀ (l : List MapEntry) (m : List (List UInt8)), l.map (·.key) = m.map Str → (∀ x ∈ l, ∃ s ∈ ks, x.key = Str s ∧ WideElems.rd Tryz.prog 9 RU x = some (.string s, .agg [])) → l.map ((fun p : Lit × DataW Unit => strOf p.1) ∘ WideElems.rg Tryz.prog 9 RU) = m := by
        intro l
        induction l with
        | nil => intro m h _; cases m with
          | nil => rfl
          | cons _ _ => simp at h
        | cons x l ih =>
          intro m h hx
          cases m with
          | nil => simp at h
          | cons y m =>
            rw [List.map_cons, List.map_cons, List.cons.injEq] at h
            obtain ⟨s, _, h4, h5⟩ := hx x List.mem_cons_self
            rw [List.map_cons, ih m h.2 fun z hz => hx z (List.mem_cons_of_mem _ hz)]
            have h6 : strOf (WideElems.rg Tryz.prog 9 RU x).1 = y := by
              rw [WideElems.rg_of h5]
              exact Str_inj (h4.symm.trans h.1)
            simp only [Function.comp_apply]
            rw [h6]
      exact h3 _ _ (setEs_keys ks 0) hrd
    rw [h2]
  · rw [Maps.size_eq, (WideShapes.sorted_perm _).length_eq]
    simp [setEs_length]
set_option maxRecDepth 100000 in
set_option maxHeartbeats 1000000 in
theorem ast_Sorted (bk bm : Nat) (ks : List (List UInt8)) (w0 : World) (h1 : RowT w0 bk 59 [.map (some bm)]) (h2 : w0.heap[bm]? = some (setObjS ks)) (hn : ks.Nodup) (hl : ks.length ≤ 1000000) (hs : ∀ k ∈ ks, k.length ≤ 65536) :
    Calls Tryz.prog 40 #[.func (.func 68) #[] #[pA bk 0]] w0 (Gives w0 (fun v : Value => v) (fun v => [.own 9 1 v (ks.mergeSort leB).length ((ks.mergeSort leB).map Str)]) fun _ => True) := by
  obtain ⟨D, hown, hperm, hsz⟩ := set_owns h2 hn hl hs
  have hseq : SeqGives Fence.wide 2 Tryz.prog 68 #[pA bk 0] encStr (fun ss => ss.Perm (strKeys D)) (Maps.size D) w0 :=
    AnyZ.keys_gives (ρ := Tryz.keys41_ren) { Tryz.keys41 with } Fence.wide _ trivial rfl (by omega) bk bm ks.length D w0 h1.lt (by rw [h1.cell]; rfl) hown
  have hmax : Maps.size D ≤ maxLen := by rw [hsz]; unfold maxLen; omega
  have hbytes : Maps.size D * 16 ≤ 140737488355328 := by rw [hsz]; omega
  have cS : CallsIn Fence.wide 5 Tryz.prog 40 #[.func (.func 68) #[] #[pA bk 0]] w0 fun e w' => ∃ (v : Value) (ss : List (List UInt8)), e = .returned v ∧ ss.Perm (strKeys D) ∧
      w'.ownsRow w0.heap.size 9 1 v ss.length ((ss.mergeSort (fun x y => decide (x ≤ y))).map encStr) ∧ (v = .slice none 0 0 ↔ ss = []) ∧ Below w0.heap.size w0 w' := by
    exact AnyZ.sorted_in Tryz.sorted40 Fence.wide 5 trivial trivial trivial trivial rfl (by omega) (Tryz.sorts40 _) (enters_of Tryz.func67 (by kernel_rfl) rfl) 68 #[pA bk 0] trivial (enters_of Tryz.func68 (by kernel_rfl) rfl) _ _ hmax hbytes _ hseq
  refine ((callsIn_wide (n := 5)).1 cS).mono ?_
  rintro e w' ⟨v, ss, rfl, hS, hrow, _, hb⟩
  have hp : ss.Perm ks := hS.trans hperm
  have e1 : ss.mergeSort (fun x y => decide (x ≤ y)) = ks.mergeSort leB := mergeSort_of_perm hp
  rw [e1] at hrow
  have e2 : ss.length = (ks.mergeSort leB).length := by rw [List.length_mergeSort]; exact hp.length_eq
  rw [e2] at hrow
  exact ⟨v, rfl, ⟨hb, fun it hi => by obtain rfl := List.mem_singleton.1 hi; exact hrow, List.pairwise_singleton _ _⟩, trivial⟩
end Go.Proofs.YtiigncmpbkfhmaaGreatDoor
namespace Go.Proofs.YtiigncmpbkfhmaaGreatDoor
open Go Go.RowKit
theorem en_ast_Regs : Enters Tryz.prog 14 := enters_of Tryz.func14 (by kernel_rfl) rfl
theorem en_ast_Regs_1 : Enters Tryz.prog 35 := enters_of Tryz.func35 (by kernel_rfl) rfl
theorem en_ast_Regs_2 : Enters Tryz.prog 37 := enters_of Tryz.func37 (by kernel_rfl) rfl
theorem en_ast_Regs_3 : Enters Tryz.prog 38 := enters_of Tryz.func38 (by kernel_rfl) rfl
theorem en_mKeys : Enters Tryz.prog 41 := enters_of Tryz.func41 (by kernel_rfl) rfl
theorem en_sSorted : Enters Tryz.prog 40 := enters_of Tryz.func40 (by kernel_rfl) rfl
theorem en_eachS : Enters Tryz.prog 39 := enters_of Tryz.func39 (by kernel_rfl) rfl
def noteE (e : Ex) (_d : Nat) (ks : List (List UInt8)) : Bool × List (List UInt8) := (true, if e.op = 2 then noteL e.nm ks else ks)
def noteS (s : Sm) (_d : Nat) (ks : List (List UInt8)) : Bool × List (List UInt8) := (true, noteL s.nm ks)
def okR (k : Nat) (ks : List (List UInt8)) : Prop := ks.length + k ≤ 1000000 ∧ ks.Nodup
theorem okR_note {k : Nat} {ks : List (List UInt8)} (h : okR (k + 1) ks) (s : List UInt8) : okR k (noteL s ks) := by
 refine ⟨?_, noteL_nodup h.2⟩
 have := h.1
 unfold noteL
 split
 ·omega
 ·split
  ·omega
  ·rw [List.length_append, List.length_singleton]; omega
set_option maxRecDepth 100000 in
set_option maxHeartbeats 4000000 in
theorem ast_note (s : List UInt8) (bx bm : Nat) (ks : List (List UInt8)) (F : List It) (w0 w1 : World) (hM0 : Mem w0 w1 ((.row bx 59 [.map (some bm)] :: .obj bm (setObjS ks) :: F))) : Calls Tryz.prog 35 #[Str s, pA bx 0] w1 (Gives w0 (fun _ : List (List UInt8) => .bool true) (fun ks' => (.row bx 59 [.map (some bm)] :: .obj bm (setObjS ks') :: F)) fun ks' => ks' = noteL s ks) := by
 refine calls_KM (args := [Str s, pA bx 0]) (n := 9) (env := [(0, Str s), (1, pA bx 0)]) Tryz.func35 rfl rfl rfl ⟨rfl, rfl, trivial⟩ hM0 fun a w hK hM => ?_
 refine wp_seq ?_
 refine rg1 (by kernel_rfl) ?_
 refine sP hK 3 (.bool false) (by kernel_rfl) (by kernel_rfl) fun a hK => ?_
 refine rps ?_
 refine wp_seq ?_
 refine wp_seq ?_
 refine rg2 (by kernel_rfl) ?_
 refine sM hK 4 0 (by kernel_rfl) (.inl rfl) rfl fun a hK => ?_
 rcases Bool.eq_false_or_eq_true (!(decide (s = []))) with h1 | h1
 ·refine sP hK 5 (.bool true) (by kernel_rfl) (oB (b := (!(decide (s = [])))) (run_neS rfl rfl rfl) h1) fun a hK => ?_
  refine rps ?_
  refine wp_cond_true (hK.get rfl) ?_
  refine rg4 (by kernel_rfl) ?_
  refine sL hK 6 (.map (some bm)) (by kernel_rfl) rfl rfl ((hM.row 0 rfl).cells 0 1) (by kernel_rfl) fun a hK => ?_
  refine sM hK 7 0 (by kernel_rfl) (.inl rfl) rfl fun a hK => ?_
  refine sP hK 8 (.agg #[]) (by kernel_rfl) (by kernel_rfl) fun a hK => ?_
  refine stepSetObj hK hM 1 (setObjS (noteL s ks)) (by kernel_rfl) rfl (run_updS rfl rfl rfl rfl (by have h9 := h1; simpa using h9) (hM.obj 1 rfl)) fun w hM => ?_
  replace hM := hM.to (.row bx 59 [.map (some bm)] :: .obj bm (setObjS (noteL s ks)) :: F) (by kernel_rfl)
  refine rps ?_
  refine wp_seq ?_
  refine rg1 (by kernel_rfl) ?_
  refine sP hK 3 (.bool true) (by kernel_rfl) (by kernel_rfl) fun a hK => ?_
  refine rps ?_
  refine wp_ret ?_
  exact ret_t hK rfl (u := (.bool true)) rfl (⟨noteL s ks, rfl, hM, rfl⟩)
 ·refine sP hK 5 (.bool false) (by kernel_rfl) (oB (b := (!(decide (s = [])))) (run_neS rfl rfl rfl) h1) fun a hK => ?_
  refine rps ?_
  refine wp_cond_false (hK.get rfl) ?_
  refine wp_skip ?_
  refine wp_seq ?_
  refine rg1 (by kernel_rfl) ?_
  refine sP hK 3 (.bool true) (by kernel_rfl) (by kernel_rfl) fun a hK => ?_
  refine rps ?_
  refine wp_ret ?_
  exact ret_t hK rfl (u := (.bool true)) rfl (⟨ks, rfl, hM, by unfold noteL; rw [if_pos (by have h9 := h1; simpa using h9)]⟩)
set_option maxRecDepth 100000 in
set_option maxHeartbeats 4000000 in
theorem step_rE (w0 : World) (bn bx bm : Nat) : StepE w0 (fun ks => [.row bn 61 [.func (.func 35) #[] #[pA bx 0]], .row bx 59 [.map (some bm)], .obj bm (setObjS ks)]) okR noteE 37 #[pA bn 0] := by
 refine ⟨en_ast_Regs_2, ?_, fun e d k ks h1 _ => by unfold noteE; show okR k (if e.op = 2 then _ else _); split; exact okR_note h1 _; exact ⟨by have := h1.1; omega, h1.2⟩⟩
 intro e d k ks F w1 hM0 he hs hd hok
 replace hM0 : Mem w0 w1 ((.row bn 61 [.func (.func 35) #[] #[pA bx 0]] :: .row bx 59 [.map (some bm)] :: .obj bm (setObjS ks) :: F)) := hM0
 refine calls_KM (args := [vE e, vN d, pA bn 0]) (n := 15) (env := [(0, vE e), (1, vN d), (2, pA bn 0)]) Tryz.func37 rfl rfl rfl ⟨rfl, rfl, rfl, trivial⟩ hM0 fun a w hK hM => ?_
 refine wp_seq ?_
 refine rg2 (by kernel_rfl) ?_
 refine sA hK hM 3 28 (cE e) (fun b => pA b 0) (by kernel_rfl) (by kernel_rfl) fun b1 a w hK hM => ?_
 refine sP hK 5 (.bool false) (by kernel_rfl) (by kernel_rfl) fun a hK => ?_
 refine rps ?_
 refine wp_seq ?_
 refine rg10 (by kernel_rfl) ?_
 refine sP hK 6 (pA b1 0) (by kernel_rfl) (by kernel_rfl) fun a hK => ?_
 refine sL hK 7 (.int .i64 e.op) (by kernel_rfl) rfl rfl ((hM.row 0 rfl).cells 0 1) (by kernel_rfl) fun a hK => ?_
 rcases Bool.eq_false_or_eq_true (!(decide ((e.op : Int) = 2))) with h2 | h2
 ·refine sP hK 8 (.bool true) (by kernel_rfl) (oB (b := (!(decide ((e.op : Int) = 2)))) (by kernel_rfl) h2) fun a hK => ?_
  refine sM hK 9 8 (by kernel_rfl) (.inl rfl) rfl fun a hK => ?_
  refine sN hK 10 (by kernel_rfl) fun a hK => ?_
  refine sN hK 11 (by kernel_rfl) fun a hK => ?_
  refine sN hK 12 (by kernel_rfl) fun a hK => ?_
  refine sN hK 13 (by kernel_rfl) fun a hK => ?_
  refine sP hK 14 (.bool true) (by kernel_rfl) (by kernel_rfl) fun a hK => ?_
  refine sM hK 5 14 (by kernel_rfl) (.inr rfl) rfl fun a hK => ?_
  refine rps ?_
  refine wp_ret ?_
  exact ret_t hK rfl (u := (.bool true)) rfl (⟨(true, ks), rfl, (hM.drop 1), by unfold noteE; rw [if_neg (by have h9 := h2; simpa using h9)]⟩)
 ·refine sP hK 8 (.bool false) (by kernel_rfl) (oB (b := (!(decide ((e.op : Int) = 2)))) (by kernel_rfl) h2) fun a hK => ?_
  refine sM hK 9 8 (by kernel_rfl) (.inl rfl) rfl fun a hK => ?_
  refine sL hK 10 (.func (.func 35) #[] #[pA bx 0]) (by kernel_rfl) rfl rfl ((hM.row 1 rfl).cells 0 1) (by kernel_rfl) fun a hK => ?_
  refine sP hK 11 (pA b1 2) (by kernel_rfl) (by kernel_rfl) fun a hK => ?_
  refine sL hK 12 (Str e.nm) (by kernel_rfl) rfl rfl ((hM.row 0 rfl).cells 2 1) (by kernel_rfl) fun a hK => ?_
  have hc3m : Mem w0 _ (.row bx 59 [.map (some bm)] :: .obj bm (setObjS ks) :: .row b1 28 (cE e) :: .row bn 61 [.func (.func 35) #[] #[pA bx 0]] :: F) := (hM.order [[.row b1 28 (cE e)], [.row bn 61 [.func (.func 35) #[] #[pA bx 0]]], [.row bx 59 [.map (some bm)]], [.obj bm (setObjS ks)], F] [2, 3, 0, 1, 4] 5 rfl (by simp) (by decide) ((.row bx 59 [.map (some bm)] :: .obj bm (setObjS ks) :: .row b1 28 (cE e) :: .row bn 61 [.func (.func 35) #[] #[pA bx 0]] :: F)) (by simp))
  have hc3 := ast_note e.nm bx bm ks (.row b1 28 (cE e) :: .row bn 61 [.func (.func 35) #[] #[pA bx 0]] :: F) _ _ hc3m
  refine stepCallIn hK 13 #[Str e.nm, pA bx 0] (by kernel_rfl) (rC en_ast_Regs_1 rfl rfl (by kernel_rfl)) (hc3) ?_
  rintro k4 a w hR5 hK hM
  replace hM := hM.to (.row bx 59 [.map (some bm)] :: .obj bm (setObjS k4) :: .row b1 28 (cE e) :: .row bn 61 [.func (.func 35) #[] #[pA bx 0]] :: F) (by kernel_rfl)
  refine sP hK 14 (.bool true) (by kernel_rfl) (by kernel_rfl) fun a hK => ?_
  refine sM hK 5 14 (by kernel_rfl) (.inr rfl) rfl fun a hK => ?_
  refine rps ?_
  refine wp_ret ?_
  exact ret_t hK rfl (u := (.bool true)) rfl (⟨(true, k4), rfl, ((hM.order [[.row bx 59 [.map (some bm)]], [.obj bm (setObjS k4)], [.row b1 28 (cE e)], [.row bn 61 [.func (.func 35) #[] #[pA bx 0]]], F] [2, 3, 0, 1, 4] 5 rfl (by simp) (by decide) ((.row b1 28 (cE e) :: .row bn 61 [.func (.func 35) #[] #[pA bx 0]] :: .row bx 59 [.map (some bm)] :: .obj bm (setObjS k4) :: F)) (by simp)).drop 1), by unfold noteE; rw [hR5, if_pos (by have h9 := h2; simpa using h9)]⟩)
set_option maxRecDepth 100000 in
set_option maxHeartbeats 4000000 in
theorem step_rS (w0 : World) (bn bx bm : Nat) : StepS w0 (fun ks => [.row bn 61 [.func (.func 35) #[] #[pA bx 0]], .row bx 59 [.map (some bm)], .obj bm (setObjS ks)]) okR noteS 38 #[pA bn 0] := by
 refine ⟨en_ast_Regs_3, ?_, fun e d k ks h1 _ => okR_note h1 _⟩
 intro e d k ks F w1 hM0 he hs hd hok
 replace hM0 : Mem w0 w1 ((.row bn 61 [.func (.func 35) #[] #[pA bx 0]] :: .row bx 59 [.map (some bm)] :: .obj bm (setObjS ks) :: F)) := hM0
 refine calls_KM (args := [vS e, vN d, pA bn 0]) (n := 10) (env := [(0, vS e), (1, vN d), (2, pA bn 0)]) Tryz.func38 rfl rfl rfl ⟨rfl, rfl, rfl, trivial⟩ hM0 fun a w hK hM => ?_
 refine wp_seq ?_
 refine rg2 (by kernel_rfl) ?_
 refine sA hK hM 3 64 (cS e) (fun b => pA b 0) (by kernel_rfl) (by kernel_rfl) fun b1 a w hK hM => ?_
 refine sP hK 5 (.bool false) (by kernel_rfl) (by kernel_rfl) fun a hK => ?_
 refine rps ?_
 refine wp_seq ?_
 refine rg5 (by kernel_rfl) ?_
 refine sL hK 6 (.func (.func 35) #[] #[pA bx 0]) (by kernel_rfl) rfl rfl ((hM.row 1 rfl).cells 0 1) (by kernel_rfl) fun a hK => ?_
 refine sP hK 7 (pA b1 1) (by kernel_rfl) (by kernel_rfl) fun a hK => ?_
 refine sL hK 8 (Str e.nm) (by kernel_rfl) rfl rfl ((hM.row 0 rfl).cells 1 1) (by kernel_rfl) fun a hK => ?_
 have hc2m : Mem w0 _ (.row bx 59 [.map (some bm)] :: .obj bm (setObjS ks) :: .row b1 64 (cS e) :: .row bn 61 [.func (.func 35) #[] #[pA bx 0]] :: F) := (hM.order [[.row b1 64 (cS e)], [.row bn 61 [.func (.func 35) #[] #[pA bx 0]]], [.row bx 59 [.map (some bm)]], [.obj bm (setObjS ks)], F] [2, 3, 0, 1, 4] 5 rfl (by simp) (by decide) ((.row bx 59 [.map (some bm)] :: .obj bm (setObjS ks) :: .row b1 64 (cS e) :: .row bn 61 [.func (.func 35) #[] #[pA bx 0]] :: F)) (by simp))
 have hc2 := ast_note e.nm bx bm ks (.row b1 64 (cS e) :: .row bn 61 [.func (.func 35) #[] #[pA bx 0]] :: F) _ _ hc2m
 refine stepCallIn hK 9 #[Str e.nm, pA bx 0] (by kernel_rfl) (rC en_ast_Regs_1 rfl rfl (by kernel_rfl)) (hc2) ?_
 rintro k3 a w hR4 hK hM
 replace hM := hM.to (.row bx 59 [.map (some bm)] :: .obj bm (setObjS k3) :: .row b1 64 (cS e) :: .row bn 61 [.func (.func 35) #[] #[pA bx 0]] :: F) (by kernel_rfl)
 refine sM hK 5 9 (by kernel_rfl) (.inr rfl) rfl fun a hK => ?_
 refine rps ?_
 refine wp_ret ?_
 exact ret_t hK rfl (u := (.bool true)) rfl (⟨(true, k3), rfl, ((hM.order [[.row bx 59 [.map (some bm)]], [.obj bm (setObjS k3)], [.row b1 64 (cS e)], [.row bn 61 [.func (.func 35) #[] #[pA bx 0]]], F] [2, 3, 0, 1, 4] 5 rfl (by simp) (by decide) ((.row b1 64 (cS e) :: .row bn 61 [.func (.func 35) #[] #[pA bx 0]] :: .row bx 59 [.map (some bm)] :: .obj bm (setObjS k3) :: F)) (by simp)).drop 1), by unfold noteS; rw [hR4]⟩)
section
variable {σ : Type} {I : σ → Prop} {f : Ex → Nat → σ → Bool × σ} {g : Sm → Nat → σ → Bool × σ}
theorem andW_inv {r : Bool × σ} {k : σ → Bool × σ} (h : I r.2) (hk : ∀ s, I s → I (k s).2) : I (andW r k).2 := by
 unfold andW
 split
 ·exact hk _ h
 ·exact h
theorem ex_inv (hf : ∀ e d s, e.sh = true → I s → I (f e d s).2) (e : Ex) : ∀ d s, e.sh = true → I s → I (e.wk f d s).2 := by
 induction e using Ex.rec_on with
 | h e ih =>
  intro d s hs h
  rw [ex_wk]
  refine andW_inv (hf _ _ _ hs h) fun s h => ?_
  have key : ∀ (l : List Ex) (d : Nat) (s : σ), (∀ x ∈ l, ∀ d s, x.sh = true → I s → I (x.wk f d s).2) → exsSh l = true → I s → I (exsWk f l d s).2 := by
   intro l
   induction l with
   | nil => intro d s _ _ h; rw [exsWk]; exact h
   | cons x r ih2 =>
    intro d s hx hs h
    rw [exsWk]
    rw [exsSh, Bool.and_eq_true] at hs
    exact andW_inv (hx x List.mem_cons_self d s hs.1 h) fun s h => ih2 d s (fun y hy => hx y (List.mem_cons_of_mem _ hy)) hs.2 h
  exact key e.ks _ s ih (ex_sh hs).2 h
theorem exs_inv (hf : ∀ e d s, e.sh = true → I s → I (f e d s).2) (l : List Ex) (d : Nat) (s : σ) (hs : exsSh l = true) (h : I s) : I (exsWk f l d s).2 := by
 induction l generalizing s with
 | nil => rw [exsWk]; exact h
 | cons x r ih =>
  rw [exsWk]
  rw [exsSh, Bool.and_eq_true] at hs
  exact andW_inv (ex_inv hf x d s hs.1 h) fun s h => ih s hs.2 h
theorem sms_inv (hf : ∀ e d s, e.sh = true → I s → I (f e d s).2) (hg : ∀ e d s, e.sh = true → I s → I (g e d s).2) (l : List Sm) : ∀ d s, smsSh l = true → I s → I (smsWk f g l d s).2 := by
 induction l using sms_rec with
 | h l ih =>
  induction l with
  | nil => intro d s _ h; rw [smsWk]; exact h
  | cons y r ih2 =>
   intro d s hs h
   rw [smsSh, Bool.and_eq_true] at hs
   obtain ⟨h1, h2⟩ := ih y List.mem_cons_self
   obtain ⟨_, _, h3, h4, h5⟩ := sm_sh hs.1
   rw [smsWk]
   refine andW_inv ?_ fun s h => ih2 (fun s hs => ih s (List.mem_cons_of_mem _ hs)) d s hs.2 h
   rw [sm_wk]
   refine andW_inv (hg _ _ _ hs.1 h) fun s h => ?_
   refine andW_inv ?_ fun s h => h2 _ s h5 h
   unfold walkW
   exact andW_inv (exs_inv hf _ _ _ h3 h) fun s h => h1 _ s h4 h
end
def regsL (l : List Sm) : List (List UInt8) := (walkW noteE noteS [] l 1 []).2
theorem regs_ok (l : List Sm) (hs : smsSh l = true) : ∀ s ∈ regsL l, s.length ≤ 65536 := by
 have hn : ∀ (s : List UInt8) (ks : List (List UInt8)), s.length ≤ 65536 → (∀ x ∈ ks, x.length ≤ 65536) → ∀ x ∈ noteL s ks, x.length ≤ 65536 := by
  intro s ks h1 h2 x hx
  unfold noteL at hx
  split at hx
  ·exact h2 x hx
  ·split at hx
   ·exact h2 x hx
   ·rcases List.mem_append.1 hx with h | h
    ·exact h2 x h
    ·rw [List.mem_singleton.1 h]; exact h1
 unfold regsL
 rw [walkW_s]
 refine sms_inv (I := fun ks : List (List UInt8) => ∀ s ∈ ks, s.length ≤ 65536) (fun e d ks he h => ?_) (fun e d ks he h => hn _ _ (sm_sh he).1 h) l 1 [] hs (fun s hs => by cases hs)
 unfold noteE
 show ∀ s ∈ (if e.op = 2 then noteL e.nm ks else ks), _
 split
 ·exact hn _ _ (ex_sh he).1 h
 ·exact h
set_option maxRecDepth 100000 in
set_option maxHeartbeats 4000000 in
theorem lib_Keys (bm : Nat) (w0 : World) : Calls Tryz.prog 41 #[.map (some bm)] w0 (Gives w0 (fun b : Nat => .func (.func 68) #[] #[pA b 0]) (fun b => [.row b 59 [.map (some bm)]]) fun _ => True) := by
 refine calls_K (args := [.map (some bm)]) (n := 4) (env := [(0, .map (some bm))]) Tryz.func41 rfl rfl rfl ⟨rfl, trivial⟩ fun a w hK hM => ?_
 refine wp_seq ?_
 refine rg2 (by kernel_rfl) ?_
 refine sA hK hM 1 59 [.map (some bm)] (fun b => pA b 0) (by kernel_rfl) (by kernel_rfl) fun b1 a w hK hM => ?_
 refine sP hK 2 (.nilFunc) (by kernel_rfl) (by kernel_rfl) fun a hK => ?_
 refine rps ?_
 refine wp_seq ?_
 refine rg2 (by kernel_rfl) ?_
 refine sP hK 3 (.func (.func 68) #[] #[pA b1 0]) (by kernel_rfl) (by kernel_rfl) fun a hK => ?_
 refine sM hK 2 3 (by kernel_rfl) (.inr rfl) rfl fun a hK => ?_
 refine rps ?_
 refine wp_ret ?_
 exact ret_t hK rfl (u := (.func (.func 68) #[] #[pA b1 0])) rfl (⟨b1, rfl, hM, trivial⟩)
theorem true_of {σ : Type} {f : Ex → Nat → σ → Bool × σ} {g : Sm → Nat → σ → Bool × σ} (hf : ∀ e d s, (f e d s).1 = true) (hg : ∀ e d s, (g e d s).1 = true) : (∀ (l : List Ex) (d : Nat) (s : σ), (exsWk f l d s).1 = true) ∧ ∀ (l : List Sm) (d : Nat) (s : σ), (smsWk f g l d s).1 = true := by
 have ht : ∀ {r : Bool × σ} {k : σ → Bool × σ}, r.1 = true → (∀ s, (k s).1 = true) → (andW r k).1 = true := by
  intro r k h1 h2
  unfold andW; rw [if_pos h1]; exact h2 _
 have he : ∀ (e : Ex) (d : Nat) (s : σ), (e.wk f d s).1 = true := by
  intro e
  induction e using Ex.rec_on with
  | h e ih =>
   intro d s
   rw [ex_wk]
   refine ht (hf _ _ _) fun s => ?_
   have : ∀ (l : List Ex) (d : Nat) (s : σ), (∀ x ∈ l, ∀ d s, (x.wk f d s).1 = true) → (exsWk f l d s).1 = true := by
    intro l
    induction l with
    | nil => intro d s _; rw [exsWk]
    | cons x r ih2 => intro d s h; rw [exsWk]; exact ht (h x List.mem_cons_self _ _) fun s => ih2 d s fun y hy => h y (List.mem_cons_of_mem _ hy)
   exact this e.ks _ s ih
 have hes : ∀ (l : List Ex) (d : Nat) (s : σ), (exsWk f l d s).1 = true := by
  intro l
  induction l with
  | nil => intro d s; rw [exsWk]
  | cons x r ih => intro d s; rw [exsWk]; exact ht (he x _ _) fun s => ih d s
 refine ⟨hes, fun l => ?_⟩
 induction l using sms_rec with
 | h l ih =>
  induction l with
  | nil => intro d s; rw [smsWk]
  | cons y r ih2 =>
   intro d s
   obtain ⟨h1, h2⟩ := ih y List.mem_cons_self
   rw [smsWk, sm_wk]
   refine ht (ht (hg _ _ _) fun s => ht ?_ fun s => h2 _ s) fun s => ih2 (fun s hs => ih s (List.mem_cons_of_mem _ hs)) d s
   unfold walkW
   exact ht (hes _ _ _) fun s => h1 _ s
theorem true_note (l : List Sm) (d : Nat) (ks : List (List UInt8)) : (smsWk noteE noteS l d ks).1 = true := (true_of (fun _ _ _ => rfl) fun _ _ _ => rfl).2 l d ks
set_option maxRecDepth 100000 in
set_option maxHeartbeats 4000000 in
theorem ast_Regs {A : Option Addr} {c : Nat} (l : List Sm) (w0 : World) (hl : SmsAt w0 A l) (hsz : smsSz l ≤ 100000) (hsh : smsSh l = true) : Calls Tryz.prog 14 #[.slice A l.length c] w0 (Gives w0 (fun v : Value => v) (fun v => [.own 9 1 v ((regsL l).mergeSort Go.leB).length (((regsL l).mergeSort Go.leB).map Str)]) fun _ => True) := by
 refine calls_K (args := [.slice A l.length c]) (n := 15) (env := [(0, .slice A l.length c)]) Tryz.func14 rfl rfl rfl ⟨rfl, trivial⟩ fun a w hK hM => ?_
 refine wp_seq ?_
 refine rg1 (by kernel_rfl) ?_
 refine sP hK 2 (.slice none 0 0) (by kernel_rfl) (by kernel_rfl) fun a hK => ?_
 refine rps ?_
 refine wp_seq ?_
 refine rg3 (by kernel_rfl) ?_
 refine stepObj hK hM 5 (.map #[] 0) (fun b => .map (some b)) (by kernel_rfl) (by kernel_rfl) fun b1 a w hK hM => ?_
 refine sA hK hM 3 59 [.map none] (fun b => pA b 0) (by kernel_rfl) (by kernel_rfl) fun b2 a w hK hM => ?_
 refine sS hK hM 0 [.map (some b1)] (by kernel_rfl) rfl rfl rfl rfl (by kernel_rfl) fun w hM => ?_
 replace hM := hM.to [.row b2 59 [.map (some b1)], .obj b1 (.map #[] 0)] (by kernel_rfl)
 refine rps ?_
 refine wp_seq ?_
 refine rg3 (by kernel_rfl) ?_
 refine sP hK 6 (.func (.func 35) #[] #[pA b2 0]) (by kernel_rfl) (by kernel_rfl) fun a hK => ?_
 refine sA hK hM 4 61 [.nilFunc] (fun b => pA b 0) (by kernel_rfl) (by kernel_rfl) fun b3 a w hK hM => ?_
 refine sS hK hM 0 [.func (.func 35) #[] #[pA b2 0]] (by kernel_rfl) rfl rfl rfl rfl (by kernel_rfl) fun w hM => ?_
 replace hM := hM.to [.row b3 61 [.func (.func 35) #[] #[pA b2 0]], .row b2 59 [.map (some b1)], .obj b1 (.map #[] 0)] (by kernel_rfl)
 refine rps ?_
 refine wp_seq ?_
 refine rg4 (by kernel_rfl) ?_
 refine sM hK 7 0 (by kernel_rfl) (.inl rfl) rfl fun a hK => ?_
 refine sP hK 8 (.func (.func 37) #[] #[pA b3 0]) (by kernel_rfl) (by kernel_rfl) fun a hK => ?_
 refine sP hK 9 (.func (.func 38) #[] #[pA b3 0]) (by kernel_rfl) (by kernel_rfl) fun a hK => ?_
 have hc4m : Mem w0 _ [.row b3 61 [.func (.func 35) #[] #[pA b2 0]], .row b2 59 [.map (some b1)], .obj b1 (.map #[] 0)] := hM
 have hc4 := ast_walk (step_rE _ b3 b2 b1) (step_rS _ b3 b2 b1) [] l none 0 A c 1 0 [] [] _ (by simp only [exsSz]; omega) (fun s F w h => ⟨fun k x hx => by simp at hx, hl.on h.below⟩) rfl hsh (hc4m.to _ (by rfl)) ⟨by simp only [exsSz, List.length_nil]; omega, List.nodup_nil⟩
 refine stepCallIn hK 10 #[.slice none 0 0, .slice A l.length c, .int .i64 1, .func (.func 37) #[] #[pA b3 0], .func (.func 38) #[] #[pA b3 0]] (by kernel_rfl) (rC en_ast_walk rfl rfl (by kernel_rfl)) (hc4) ?_
 rintro ⟨r5, q6⟩ a w ⟨hR7, hKo⟩ hK hM
 replace hM := hM.to [.row b3 61 [.func (.func 35) #[] #[pA b2 0]], .row b2 59 [.map (some b1)], .obj b1 (setObjS q6)] (by kernel_rfl)
 have hKok : q6.Nodup ∧ q6.length ≤ 1000000 := by have h8 := (hKo (by rw [congrArg Prod.fst hR7, walkW_s]; exact true_note l 1 [])); exact ⟨h8.2, by have := h8.1; omega⟩
 refine rps ?_
 refine wp_seq ?_
 refine rg5 (by kernel_rfl) ?_
 refine sL hK 11 (.map (some b1)) (by kernel_rfl) rfl rfl ((hM.row 1 rfl).cells 0 1) (by kernel_rfl) fun a hK => ?_
 refine sC hK hM 12 #[.map (some b1)] (by kernel_rfl) (rC en_mKeys rfl rfl (by kernel_rfl)) (lib_Keys b1 _) ?_
 rintro b9 a w - hK hM
 have hks : q6 = regsL l := congrArg Prod.snd hR7
 have hkn : q6.Nodup ∧ q6.length ≤ 1000000 := hKok
 have hkl : ∀ s ∈ q6, s.length ≤ 65536 := by rw [hks]; exact regs_ok l hsh
 refine sC hK hM 13 #[.func (.func 68) #[] #[pA b9 0]] (by kernel_rfl) (rC en_sSorted rfl rfl (by kernel_rfl)) (ast_Sorted b9 b1 q6 _ (hM.row 0 rfl) (hM.obj 3 rfl) hkn.1 hkn.2 hkl) ?_
 rintro v11 a w - hK hM
 obtain ⟨A9, c9, rfl, -, hH9, hnil9⟩ := own_hand (hM.own 0 rfl)
 refine sC hK hM 14 #[.slice A9 (q6.mergeSort leB).length c9, .func (.func 42) #[] #[]] (by kernel_rfl) (rC en_eachS rfl rfl (by kernel_rfl)) (ast_eachS (q6.mergeSort leB) _ hH9 (by rw [List.length_mergeSort]; exact hkn.2) (fun x hx => hkl x (List.mem_mergeSort.1 hx)) hnil9) ?_
 rintro v13 a w - hK hM
 refine sM hK 2 14 (by kernel_rfl) (.inr rfl) rfl fun a hK => ?_
 refine rps ?_
 refine wp_ret ?_
 exact ret_t hK rfl (u := v13) rfl (⟨v13, rfl, (hM.pick 0 rfl).to _ (by rw [hks]), trivial⟩)
end Go.Proofs.YtiigncmpbkfhmaaGreatDoor
namespace Go.Proofs.YtiigncmpbkfhmaaGreatDoor
open Go Go.RowKit
theorem en_ast_Kinds : Enters Tryz.prog 17 := enters_of Tryz.func17 (by kernel_rfl) rfl
theorem en_ast_Kinds_1 : Enters Tryz.prog 46 := enters_of Tryz.func46 (by kernel_rfl) rfl
theorem en_ast_Kinds_2 : Enters Tryz.prog 47 := enters_of Tryz.func47 (by kernel_rfl) rfl
def trueD (_d : Nat) (c : Int → Nat) : Bool × (Int → Nat) := (true, c)
def kindS (s : Sm) (_d : Nat) (c : Int → Nat) : Bool × (Int → Nat) := (true, bumpK s.kind c)
def okK (k : Nat) (c : Int → Nat) : Prop := ∀ j, c j + k ≤ 1000000
set_option maxRecDepth 100000 in
set_option maxHeartbeats 4000000 in
theorem step_k1 (w0 : World) (G : (Int → Nat) → List It) : StepD w0 G okK trueD 46 #[] := by
 refine ⟨en_ast_Kinds_1, ?_, fun d k s h1 _ => fun j => by have := h1 j; show s j + k ≤ _; omega⟩
 intro d k s F w1 hM0 hd hok
 refine calls_KM (args := [vN d]) (n := 3) (env := [(0, vN d)]) Tryz.func46 rfl rfl rfl ⟨rfl, trivial⟩ hM0 fun a w hK hM => ?_
 refine wp_seq ?_
 refine rg1 (by kernel_rfl) ?_
 refine sP hK 2 (.bool false) (by kernel_rfl) (by kernel_rfl) fun a hK => ?_
 refine rps ?_
 refine wp_seq ?_
 refine rg1 (by kernel_rfl) ?_
 refine sP hK 2 (.bool true) (by kernel_rfl) (by kernel_rfl) fun a hK => ?_
 refine rps ?_
 refine wp_ret ?_
 exact ret_t hK rfl (u := (.bool true)) rfl (⟨(true, s), rfl, hM, rfl⟩)
set_option maxRecDepth 100000 in
set_option maxHeartbeats 4000000 in
theorem step_k2 (w0 : World) (bx bl : Nat) : StepS w0 (fun c => [.row bx 40 [.slice (some ⟨bl, 0, none⟩) 11 11], .row bl 3 (kL c)]) okK kindS 47 #[pA bx 0] := by
 refine ⟨en_ast_Kinds_2, ?_, fun e d k c h1 _ => fun j => by have := h1 j; show bumpK e.kind c j + k ≤ _; unfold bumpK; split <;> omega⟩
 intro e d k c F w1 hM0 he hs hd hok
 replace hM0 : Mem w0 w1 ((.row bx 40 [.slice (some ⟨bl, 0, none⟩) 11 11] :: .row bl 3 (kL c) :: F)) := hM0
 refine calls_KM (args := [vS e, vN d, pA bx 0]) (n := 17) (env := [(0, vS e), (1, vN d), (2, pA bx 0)]) Tryz.func47 rfl rfl rfl ⟨rfl, rfl, rfl, trivial⟩ hM0 fun a w hK hM => ?_
 refine wp_seq ?_
 refine rg2 (by kernel_rfl) ?_
 refine sA hK hM 3 64 (cS e) (fun b => pA b 0) (by kernel_rfl) (by kernel_rfl) fun b1 a w hK hM => ?_
 refine sP hK 5 (.bool false) (by kernel_rfl) (by kernel_rfl) fun a hK => ?_
 refine rps ?_
 refine wp_seq ?_
 refine wp_seq ?_
 refine rg3 (by kernel_rfl) ?_
 refine sP hK 6 (pA b1 0) (by kernel_rfl) (by kernel_rfl) fun a hK => ?_
 refine sL hK 7 (.int .i64 e.kind) (by kernel_rfl) rfl rfl ((hM.row 0 rfl).cells 0 1) (by kernel_rfl) fun a hK => ?_
 rcases Bool.eq_false_or_eq_true (ptIs e.kind) with h2 | h2
 ·refine sR hK hM 8 #[.int .i64 e.kind] (.bool true) (by kernel_rfl) (rC en_ast_isKind rfl rfl (by kernel_rfl)) (ret_eq (ast_isKind e.kind _) (congrArg Value.bool h2)) fun a w hK hM => ?_
  refine rps ?_
  refine wp_cond_true (hK.get rfl) ?_
  have hk2 : 1 ≤ e.kind ∧ e.kind ≤ 11 := by have := h2; unfold ptIs at this; simpa using this
  refine rg9 (by kernel_rfl) ?_
  refine sL hK 9 (.slice (some ⟨bl, 0, none⟩) 11 11) (by kernel_rfl) rfl rfl ((hM.row 1 rfl).cells 0 1) (by kernel_rfl) fun a hK => ?_
  refine sP hK 10 (pA b1 0) (by kernel_rfl) (by kernel_rfl) fun a hK => ?_
  refine sL hK 11 (.int .i64 e.kind) (by kernel_rfl) rfl rfl ((hM.row 0 rfl).cells 0 1) (by kernel_rfl) fun a hK => ?_
  refine sP hK 12 (.int .i64 (((e.kind - 1).toNat : Nat) : Int)) (by kernel_rfl) (okVal (run_subZ rfl rfl rfl (by omega) (by omega)) (congrArg (Value.int .i64) (by omega))) fun a hK => ?_
  refine sP hK 13 (.pointer (some ⟨bl, (e.kind - 1).toNat * 1, none⟩)) (by kernel_rfl) (run_ixG (k := (e.kind - 1).toNat) (s := 1) rfl rfl rfl Tryz.underlying40 (by kernel_rfl) (by omega)) fun a hK => ?_
  refine sL hK 14 (.int .i64 (((c e.kind) : Nat) : Int)) (by kernel_rfl) rfl rfl (((hM.row 2 rfl).cells ((e.kind - 1).toNat * 1) 1).to (kL_at hk2 c)) (by kernel_rfl) fun a hK => ?_
  refine sP hK 15 (.int .i64 ((((c e.kind) + 1) : Nat) : Int)) (by kernel_rfl) (run_addN (i := (c e.kind)) (j := 1) rfl rfl rfl (by have := hok e.kind; omega)) fun a hK => ?_
  refine sP hK 16 (.pointer (some ⟨bl, (e.kind - 1).toNat * 1, none⟩)) (by kernel_rfl) (run_ixG (k := (e.kind - 1).toNat) (s := 1) rfl rfl rfl Tryz.underlying40 (by kernel_rfl) (by omega)) fun a hK => ?_
  refine stepStoreAt hK hM 2 [.int .i64 ((((c e.kind) + 1) : Nat) : Int)] (kL (bumpK e.kind c)) (by kernel_rfl) rfl rfl rfl rfl (by kernel_rfl) rfl rfl (by simp [kL]; omega) (kL_put hk2 c) fun w hM => ?_
  replace hM := hM.to ((.row b1 64 (cS e) :: .row bx 40 [.slice (some ⟨bl, 0, none⟩) 11 11] :: .row bl 3 (kL (bumpK e.kind c)) :: F)) (by kernel_rfl)
  refine rps ?_
  refine wp_seq ?_
  refine rg1 (by kernel_rfl) ?_
  refine sP hK 5 (.bool true) (by kernel_rfl) (by kernel_rfl) fun a hK => ?_
  refine rps ?_
  refine wp_ret ?_
  exact ret_t hK rfl (u := (.bool true)) rfl (⟨(true, bumpK e.kind c), rfl, hM.drop 1, rfl⟩)
 ·refine sR hK hM 8 #[.int .i64 e.kind] (.bool false) (by kernel_rfl) (rC en_ast_isKind rfl rfl (by kernel_rfl)) (ret_eq (ast_isKind e.kind _) (congrArg Value.bool h2)) fun a w hK hM => ?_
  refine rps ?_
  refine wp_cond_false (hK.get rfl) ?_
  refine wp_skip ?_
  refine wp_seq ?_
  refine rg1 (by kernel_rfl) ?_
  refine sP hK 5 (.bool true) (by kernel_rfl) (by kernel_rfl) fun a hK => ?_
  refine rps ?_
  refine wp_ret ?_
  exact ret_t hK rfl (u := (.bool true)) rfl (⟨(true, bumpK e.kind c), rfl, (hM.drop 1).to _ (by show _ = _ :: .row bl _ (kL (bumpK e.kind c)) :: F; rw [kL_out (fun h9 => by have h8 := h2; unfold ptIs at h8; rw [decide_eq_true h9.1, decide_eq_true h9.2] at h8; cases h8)]; rfl), rfl⟩)
theorem true_exs (l : List Ex) (d : Nat) (c : Int → Nat) : exsWk (fun _ d s => trueD d s) l d c = (true, c) := by
 have key : ∀ (e : Ex) (d : Nat) (c : Int → Nat), e.wk (fun _ d s => trueD d s) d c = (true, c) := by
  intro e
  induction e using Ex.rec_on with
  | h e ih =>
   intro d c
   rw [ex_wk]
   show andW (true, c) _ = _
   rw [andW_t]
   have : ∀ (l : List Ex) (d : Nat), (∀ x ∈ l, ∀ (d : Nat) (c : Int → Nat), x.wk (fun _ d s => trueD d s) d c = (true, c)) → exsWk (fun _ d s => trueD d s) l d c = (true, c) := by
    intro l
    induction l with
    | nil => intro d _; rw [exsWk]
    | cons x r ih2 => intro d h; rw [exsWk, h x List.mem_cons_self, andW_t, ih2 d fun y hy => h y (List.mem_cons_of_mem _ hy)]
   exact this e.ks _ ih
 induction l with
 | nil => rw [exsWk]
 | cons x r ih => rw [exsWk, key, andW_t, ih]
theorem kind_sms0 (l : List Sm) : ∀ (d : Nat) (c : Int → Nat), smsWk (fun _ d s => trueD d s) kindS l d c = (true, fun j => c j + smsCt j l) := by
 induction l using sms_rec with
 | h l ih =>
  induction l with
  | nil => intro d c; rw [smsWk]; exact congrArg (Prod.mk true) (funext fun j => by rw [smsCt]; rfl)
  | cons y r ih2 =>
   intro d c
   obtain ⟨h1, h2⟩ := ih y List.mem_cons_self
   rw [smsWk, sm_wk]
   show andW (andW (true, bumpK y.kind c) _) _ = _
   rw [andW_t, walkW_go (true_exs _ _ _), h1, andW_t, h2, andW_t, ih2 fun s hs => ih s (List.mem_cons_of_mem _ hs)]
   refine congrArg (Prod.mk true) (funext fun j => ?_)
   rw [smsCt, sm_ct]
   unfold bumpK
   omega
theorem kind_sms (l : List Sm) : walkW (fun _ d s => trueD d s) kindS [] l 1 (fun _ => 0) = (true, fun j => smsCt j l) := by
 rw [walkW_s, kind_sms0]
 exact congrArg (Prod.mk true) (funext fun j => Nat.zero_add _)
set_option maxRecDepth 100000 in
set_option maxHeartbeats 4000000 in
theorem ast_Kinds {A : Option Addr} {c : Nat} (l : List Sm) (w0 : World) (hl : SmsAt w0 A l) (hsz : smsSz l ≤ 100000) (hsh : smsSh l = true) : Calls Tryz.prog 17 #[.slice A l.length c] w0 (Gives w0 (fun b : Nat => .slice (some ⟨b, 0, none⟩) 11 11) (fun b => [.row b 3 (kL fun j => smsCt j l)]) fun _ => True) := by
 refine calls_K (args := [.slice A l.length c]) (n := 10) (env := [(0, .slice A l.length c)]) Tryz.func17 rfl rfl rfl ⟨rfl, trivial⟩ fun a w hK hM => ?_
 refine wp_seq ?_
 refine rg1 (by kernel_rfl) ?_
 refine sP hK 2 (.slice none 0 0) (by kernel_rfl) (by kernel_rfl) fun a hK => ?_
 refine rps ?_
 refine wp_seq ?_
 refine rg3 (by kernel_rfl) ?_
 refine stepMake hK hM 4 [.int .i64 0] 11 8 Tryz.underlying40 (by kernel_rfl) (by kernel_rfl) rfl rfl rfl (by omega) fun b1 a w hK hM => ?_
 refine sA hK hM 3 40 [.slice none 0 0] (fun b => pA b 0) (by kernel_rfl) (by kernel_rfl) fun b2 a w hK hM => ?_
 refine sS hK hM 0 [.slice (some ⟨b1, 0, none⟩) 11 11] (by kernel_rfl) rfl rfl rfl rfl (by kernel_rfl) fun w hM => ?_
 replace hM := hM.to [.row b2 40 [.slice (some ⟨b1, 0, none⟩) 11 11], .row b1 3 (zerosL 11 [.int .i64 0])] (by kernel_rfl)
 refine rps ?_
 refine wp_seq ?_
 refine rg4 (by kernel_rfl) ?_
 refine sM hK 5 0 (by kernel_rfl) (.inl rfl) rfl fun a hK => ?_
 refine sC hK hM 6 #[.func (.func 46) #[] #[]] (by kernel_rfl) (rC en_ast_anyExpr rfl rfl (by kernel_rfl)) (ast_anyExpr 46 #[] _) ?_
 rintro b3 a w - hK hM
 refine sP hK 7 (.func (.func 47) #[] #[pA b2 0]) (by kernel_rfl) (by kernel_rfl) fun a hK => ?_
 have hc5m : Mem w0 _ [.row b3 74 [.func (.func 46) #[] #[]], .row b2 40 [.slice (some ⟨b1, 0, none⟩) 11 11], .row b1 3 (zerosL 11 [.int .i64 0])] := hM
 have hc5 := ast_walk (any_expr1 (step_k1 _ (fun c => [.row b2 40 [.slice (some ⟨b1, 0, none⟩) 11 11], .row b1 3 (kL c)])) b3) (StepS.more (step_k2 _ b2 b1) [.row b3 74 [.func (.func 46) #[] #[]]]) [] l none 0 A c 1 0 (fun _ => 0) [] _ (by simp only [exsSz]; omega) (fun s F w h => ⟨fun k x hx => by simp at hx, hl.on h.below⟩) rfl hsh (hc5m.to _ (by rfl)) (by intro j; simp only [exsSz]; omega)
 refine stepCallIn hK 8 #[.slice none 0 0, .slice A l.length c, .int .i64 1, .func (.func 71) #[] #[pA b3 0], .func (.func 47) #[] #[pA b2 0]] (by kernel_rfl) (rC en_ast_walk rfl rfl (by kernel_rfl)) (hc5) ?_
 rintro ⟨r6, q7⟩ a w ⟨hR8, -⟩ hK hM
 replace hM := hM.to [.row b3 74 [.func (.func 46) #[] #[]], .row b2 40 [.slice (some ⟨b1, 0, none⟩) 11 11], .row b1 3 (kL q7)] (by kernel_rfl)
 refine rps ?_
 refine wp_seq ?_
 refine rg2 (by kernel_rfl) ?_
 refine sL hK 9 (.slice (some ⟨b1, 0, none⟩) 11 11) (by kernel_rfl) rfl rfl ((hM.row 1 rfl).cells 0 1) (by kernel_rfl) fun a hK => ?_
 refine sM hK 2 9 (by kernel_rfl) (.inr rfl) rfl fun a hK => ?_
 refine rps ?_
 refine wp_ret ?_
 exact ret_t hK rfl (u := (.slice (some ⟨b1, 0, none⟩) 11 11)) rfl (⟨b1, rfl, (((hM.order [[.row b3 74 [.func (.func 46) #[] #[]]], [.row b2 40 [.slice (some ⟨b1, 0, none⟩) 11 11]], [.row b1 3 (kL q7)]] [2, 0, 1] 3 rfl (by simp) (by decide) ([.row b1 3 (kL q7), .row b3 74 [.func (.func 46) #[] #[]], .row b2 40 [.slice (some ⟨b1, 0, none⟩) 11 11]]) (by simp))).pick 0 rfl).to _ (by rw [show q7 = fun j => smsCt j l from (congrArg Prod.snd hR8).trans (congrArg Prod.snd (kind_sms l))]), trivial⟩)
end Go.Proofs.YtiigncmpbkfhmaaGreatDoor
namespace Go.Proofs.YtiigncmpbkfhmaaGreatDoor
open Go Go.RowKit
theorem en_cantileverlaw03_lives : Enters Tryz.prog 4 := enters_of Tryz.func4 (by kernel_rfl) rfl
set_option maxRecDepth 100000 in
set_option maxHeartbeats 4000000 in
theorem lives_yes  (w0 : World) (hTab : TabOk w0) : Calls Tryz.prog 4 #[] w0 (Ret w0 (.bool true)) := by
 refine calls_K (args := []) (n := 34) (env := []) Tryz.func4 rfl rfl rfl trivial fun a w hK hM => ?_
 refine wp_seq ?_
 refine rg1 (by kernel_rfl) ?_
 refine sP hK 0 (.bool false) (by kernel_rfl) (by kernel_rfl) fun a hK => ?_
 refine rps ?_
 refine wp_seq ?_
 refine rg3 (by kernel_rfl) ?_
 refine sC hK hM 2 #[] (by kernel_rfl) (rC en_cantileverkit_Pages rfl rfl (by kernel_rfl)) (kit_Pages _) ?_
 rintro ⟨k1_1, e1_1, s1_1, d0_1, k2_1, e2_1, s0_1, t0_1⟩ a w - hK hM
 refine sA hK hM 1 25 [.slice none 0 0, .slice none 0 0] (fun b => pA b 0) (by kernel_rfl) (by kernel_rfl) fun b3 a w hK hM => ?_
 refine sS hK hM 0 [.slice (some ⟨d0_1, 0, none⟩) 1 1, .slice (some ⟨t0_1, 0, none⟩) 1 1] (by kernel_rfl) rfl rfl rfl rfl (by kernel_rfl) fun w hM => ?_
 replace hM := hM.to [.row b3 25 [.slice (some ⟨d0_1, 0, none⟩) 1 1, .slice (some ⟨t0_1, 0, none⟩) 1 1], .row k1_1 28 [.int .i64 2, .int .i64 0, Str [114], .slice none 0 0, .int .i64 1, .int .i64 1, Str [], .slice none 0 0], .row e1_1 28 [.int .i64 14, .int .i64 0, Str [], .slice (some ⟨k1_1, 0, none⟩) 2 2], .row s1_1 64 [.int .i64 3, Str [], Str [120], .int .i64 4, .slice (some ⟨e1_1, 0, none⟩) 1 1, .slice none 0 0, .slice none 0 0], .row d0_1 48 [Str [120], .bool false, .int .i64 0], .row k2_1 28 [.int .i64 2, .int .i64 0, Str [114], .slice none 0 0, .int .i64 1, .int .i64 1, Str [], .slice none 0 0], .row e2_1 28 [.int .i64 7, .int .i64 0, Str [], .slice (some ⟨k2_1, 0, none⟩) 2 2], .row s0_1 64 [.int .i64 2, Str [114], Str [120], .int .i64 3, .slice none 0 0, .slice none 0 0, .slice none 0 0, .int .i64 10, Str [], Str [], .int .i64 0, .slice (some ⟨e2_1, 0, none⟩) 1 1, .slice (some ⟨s1_1, 0, none⟩) 1 1, .slice none 0 0], .row t0_1 38 [.slice (some ⟨s0_1, 0, none⟩) 2 2]] (by kernel_rfl)
 refine rps ?_
 refine wp_seq ?_
 refine rg32 (by kernel_rfl) ?_
 refine sL hK 3 (.agg #[.slice (some ⟨d0_1, 0, none⟩) 1 1, .slice (some ⟨t0_1, 0, none⟩) 1 1]) (by kernel_rfl) rfl rfl ((hM.row 0 rfl).cells 0 2) (by kernel_rfl) fun a hK => ?_
 refine sR hK hM 4 #[.agg #[.slice (some ⟨d0_1, 0, none⟩) 1 1, .slice (some ⟨t0_1, 0, none⟩) 1 1]] (.int .i64 0) (by kernel_rfl) (rC en_ast_Check rfl rfl (by kernel_rfl)) (ret_eq (ast_Check (pgT k1_1 e1_1 s1_1 d0_1 k2_1 e2_1 s0_1 t0_1 none 0 []) _ (hTab.on hM.below) (pages_at (hM.row 1 rfl) (hM.row 2 rfl) (hM.row 3 rfl) (hM.row 4 rfl) (hM.row 5 rfl) (hM.row 6 rfl) (hM.row 7 rfl) (hM.row 8 rfl) (by decide) (sms_nil _ _)) (Nat.le_of_ble_eq_true (by kernel_rfl)) (by kernel_rfl)) (v' := (.int .i64 0)) (by kernel_rfl)) fun a w hK hM => ?_
 refine sP hK 5 (.bool true) (by kernel_rfl) (by kernel_rfl) fun a hK => ?_
 refine sM hK 6 5 (by kernel_rfl) (.inl rfl) rfl fun a hK => ?_
 refine sL hK 7 (.agg #[.slice (some ⟨d0_1, 0, none⟩) 1 1, .slice (some ⟨t0_1, 0, none⟩) 1 1]) (by kernel_rfl) rfl rfl ((hM.row 0 rfl).cells 0 2) (by kernel_rfl) fun a hK => ?_
 refine sR hK hM 8 #[.agg #[.slice (some ⟨d0_1, 0, none⟩) 1 1, .slice (some ⟨t0_1, 0, none⟩) 1 1]] (.int .i64 9) (by kernel_rfl) (rC en_ast_Size rfl rfl (by kernel_rfl)) (ret_eq (ast_Size (pgT k1_1 e1_1 s1_1 d0_1 k2_1 e2_1 s0_1 t0_1 none 0 []) _ (pages_at (hM.row 1 rfl) (hM.row 2 rfl) (hM.row 3 rfl) (hM.row 4 rfl) (hM.row 5 rfl) (hM.row 6 rfl) (hM.row 7 rfl) (hM.row 8 rfl) (by decide) (sms_nil _ _)) (Nat.le_of_ble_eq_true (by kernel_rfl)) (by kernel_rfl)) (v' := (.int .i64 9)) (by kernel_rfl)) fun a w hK hM => ?_
 refine sP hK 9 (.bool true) (by kernel_rfl) (by kernel_rfl) fun a hK => ?_
 refine sP hK 10 (.bool true) (by kernel_rfl) (by kernel_rfl) fun a hK => ?_
 refine sM hK 11 10 (by kernel_rfl) (.inl rfl) rfl fun a hK => ?_
 refine sL hK 12 (.agg #[.slice (some ⟨d0_1, 0, none⟩) 1 1, .slice (some ⟨t0_1, 0, none⟩) 1 1]) (by kernel_rfl) rfl rfl ((hM.row 0 rfl).cells 0 2) (by kernel_rfl) fun a hK => ?_
 refine sR hK hM 13 #[.agg #[.slice (some ⟨d0_1, 0, none⟩) 1 1, .slice (some ⟨t0_1, 0, none⟩) 1 1]] (.int .i64 4) (by kernel_rfl) (rC en_ast_Deep rfl rfl (by kernel_rfl)) (ret_eq (ast_Deep (pgT k1_1 e1_1 s1_1 d0_1 k2_1 e2_1 s0_1 t0_1 none 0 []) _ (pages_at (hM.row 1 rfl) (hM.row 2 rfl) (hM.row 3 rfl) (hM.row 4 rfl) (hM.row 5 rfl) (hM.row 6 rfl) (hM.row 7 rfl) (hM.row 8 rfl) (by decide) (sms_nil _ _)) (Nat.le_of_ble_eq_true (by kernel_rfl)) (by kernel_rfl)) (v' := (.int .i64 4)) (by kernel_rfl)) fun a w hK hM => ?_
 refine sP hK 14 (.bool true) (by kernel_rfl) (by kernel_rfl) fun a hK => ?_
 refine sP hK 15 (.bool true) (by kernel_rfl) (by kernel_rfl) fun a hK => ?_
 refine sM hK 16 15 (by kernel_rfl) (.inl rfl) rfl fun a hK => ?_
 refine sP hK 17 (pA b3 1) (by kernel_rfl) (by kernel_rfl) fun a hK => ?_
 refine sL hK 18 (.slice (some ⟨t0_1, 0, none⟩) 1 1) (by kernel_rfl) rfl rfl ((hM.row 0 rfl).cells 1 1) (by kernel_rfl) fun a hK => ?_
 refine sP hK 19 (pA t0_1 0) (by kernel_rfl) (run_ixG (k := 0) (s := 1) rfl rfl rfl Tryz.underlying23 (by kernel_rfl) (by decide)) fun a hK => ?_
 refine sL hK 20 (.slice (some ⟨s0_1, 0, none⟩) 2 2) (by kernel_rfl) rfl rfl ((hM.row 8 rfl).cells 0 1) (by kernel_rfl) fun a hK => ?_
 refine sC hK hM 21 #[.slice (some ⟨s0_1, 0, none⟩) 2 2] (by kernel_rfl) (rC en_ast_Regs rfl rfl (by kernel_rfl)) (ast_Regs [st1 none 0 [], stIf k1_1 e1_1 s1_1 k2_1 e2_1] _ ((pages_at (hM.row 1 rfl) (hM.row 2 rfl) (hM.row 3 rfl) (hM.row 4 rfl) (hM.row 5 rfl) (hM.row 6 rfl) (hM.row 7 rfl) (hM.row 8 rfl) (by decide) (sms_nil _ _)).threads 0 _ rfl).2.1 (Nat.le_of_ble_eq_true (by kernel_rfl)) (by kernel_rfl)) ?_
 rintro v4 a w - hK hM
 rw [show (regsL [st1 none 0 [], stIf k1_1 e1_1 s1_1 k2_1 e2_1]).mergeSort Go.leB = [[114]] by rw [show regsL [st1 none 0 [], stIf k1_1 e1_1 s1_1 k2_1 e2_1] = [[114]] by kernel_rfl]; simp] at hM
 obtain ⟨A9, c9, rfl, -, -⟩ := own_hand (hM.own 0 rfl)
 refine sA hK hM 22 9 [Str [114]] (fun b => .slice (some ⟨b, 0, none⟩) 1 1) (by kernel_rfl) (by kernel_rfl) fun b6 a w hK hM => ?_
 refine sR hK hM 23 #[.slice A9 [[114]].length c9, .slice (some ⟨b6, 0, none⟩) 1 1] (.bool true) (by kernel_rfl) (rC en_cantileverkit_Texts rfl rfl (by kernel_rfl)) (ret_eq (kit_Texts [[114]] [[114]] _ (own_at (f := Str) (l := [[114]]) (hM.own 1 rfl)) (HandAt.row (f := Str) (l := [[114]]) (hM.row 0 rfl)) (by decide) (by decide)) (v' := .bool true) (by kernel_rfl)) fun a w hK hM => ?_
 refine sP hK 24 (.bool true) (by kernel_rfl) (by kernel_rfl) fun a hK => ?_
 refine sM hK 25 24 (by kernel_rfl) (.inl rfl) rfl fun a hK => ?_
 refine sP hK 26 (pA b3 1) (by kernel_rfl) (by kernel_rfl) fun a hK => ?_
 refine sL hK 27 (.slice (some ⟨t0_1, 0, none⟩) 1 1) (by kernel_rfl) rfl rfl ((hM.row 2 rfl).cells 1 1) (by kernel_rfl) fun a hK => ?_
 refine sP hK 28 (pA t0_1 0) (by kernel_rfl) (run_ixG (k := 0) (s := 1) rfl rfl rfl Tryz.underlying23 (by kernel_rfl) (by decide)) fun a hK => ?_
 refine sL hK 29 (.slice (some ⟨s0_1, 0, none⟩) 2 2) (by kernel_rfl) rfl rfl ((hM.row 10 rfl).cells 0 1) (by kernel_rfl) fun a hK => ?_
 refine sC hK hM 30 #[.slice (some ⟨s0_1, 0, none⟩) 2 2] (by kernel_rfl) (rC en_ast_Kinds rfl rfl (by kernel_rfl)) (ast_Kinds [st1 none 0 [], stIf k1_1 e1_1 s1_1 k2_1 e2_1] _ ((pages_at (hM.row 3 rfl) (hM.row 4 rfl) (hM.row 5 rfl) (hM.row 6 rfl) (hM.row 7 rfl) (hM.row 8 rfl) (hM.row 9 rfl) (hM.row 10 rfl) (by decide) (sms_nil _ _)).threads 0 _ rfl).2.1 (Nat.le_of_ble_eq_true (by kernel_rfl)) (by kernel_rfl)) ?_
 rintro b7 a w - hK hM
 replace hM := hM.to ([.row b7 3 [.int .i64 0, .int .i64 1, .int .i64 1, .int .i64 0, .int .i64 0, .int .i64 0, .int .i64 0, .int .i64 0, .int .i64 0, .int .i64 1, .int .i64 0], .row b6 9 [Str [114]], .own 9 1 (.slice A9 [[114]].length c9) 1 [Str [114]], .row b3 25 [.slice (some ⟨d0_1, 0, none⟩) 1 1, .slice (some ⟨t0_1, 0, none⟩) 1 1], .row k1_1 28 [.int .i64 2, .int .i64 0, Str [114], .slice none 0 0, .int .i64 1, .int .i64 1, Str [], .slice none 0 0], .row e1_1 28 [.int .i64 14, .int .i64 0, Str [], .slice (some ⟨k1_1, 0, none⟩) 2 2], .row s1_1 64 [.int .i64 3, Str [], Str [120], .int .i64 4, .slice (some ⟨e1_1, 0, none⟩) 1 1, .slice none 0 0, .slice none 0 0], .row d0_1 48 [Str [120], .bool false, .int .i64 0], .row k2_1 28 [.int .i64 2, .int .i64 0, Str [114], .slice none 0 0, .int .i64 1, .int .i64 1, Str [], .slice none 0 0], .row e2_1 28 [.int .i64 7, .int .i64 0, Str [], .slice (some ⟨k2_1, 0, none⟩) 2 2], .row s0_1 64 [.int .i64 2, Str [114], Str [120], .int .i64 3, .slice none 0 0, .slice none 0 0, .slice none 0 0, .int .i64 10, Str [], Str [], .int .i64 0, .slice (some ⟨e2_1, 0, none⟩) 1 1, .slice (some ⟨s1_1, 0, none⟩) 1 1, .slice none 0 0], .row t0_1 38 [.slice (some ⟨s0_1, 0, none⟩) 2 2]]) (by kernel_rfl)
 refine sA hK hM 31 3 [.int .i64 0, .int .i64 1, .int .i64 1, .int .i64 0, .int .i64 0, .int .i64 0, .int .i64 0, .int .i64 0, .int .i64 0, .int .i64 1, .int .i64 0] (fun b => .slice (some ⟨b, 0, none⟩) 11 11) (by kernel_rfl) (by kernel_rfl) fun b9 a w hK hM => ?_
 refine sR hK hM 32 #[.slice (some ⟨b7, 0, none⟩) 11 11, .slice (some ⟨b9, 0, none⟩) 11 11] (.bool true) (by kernel_rfl) (rC en_cantileverkit_Ints rfl rfl (by kernel_rfl)) (ret_eq (kit_Ints [0, 1, 1, 0, 0, 0, 0, 0, 0, 1, 0] [0, 1, 1, 0, 0, 0, 0, 0, 0, 1, 0] _ (HandAt.row (f := fun x => .int .i64 x) (l := [0, 1, 1, 0, 0, 0, 0, 0, 0, 1, 0]) (hM.row 1 rfl)) (HandAt.row (f := fun x => .int .i64 x) (l := [0, 1, 1, 0, 0, 0, 0, 0, 0, 1, 0]) (hM.row 0 rfl)) (by decide) (by decide)) (v' := .bool true) (by kernel_rfl)) fun a w hK hM => ?_
 refine sP hK 33 (.bool true) (by kernel_rfl) (by kernel_rfl) fun a hK => ?_
 refine sM hK 0 33 (by kernel_rfl) (.inr rfl) rfl fun a hK => ?_
 refine rps ?_
 refine wp_ret ?_
 exact ret_t hK rfl (u := (.bool true)) rfl (⟨rfl, hM.below⟩)
end Go.Proofs.YtiigncmpbkfhmaaGreatDoor
namespace Go.Proofs.YtiigncmpbkfhmaaGreatDoor
open Go Go.RowKit
theorem en_cantileverkit_LightProgram : Enters Tryz.prog 5 := enters_of Tryz.func5 (by kernel_rfl) rfl
set_option maxRecDepth 100000 in
set_option maxHeartbeats 4000000 in
theorem kit_LightProgram (p : Pg) (n : Int) (w0 : World) (hp : PgAt w0 p) (hn0 : 0 ≤ n) (hn1 : n ≤ 100000) : Calls Tryz.prog 5 #[vG p, .int .i64 n] w0 (Ret w0 (.bool (decide ((0 : Int) ≤ pgHf p n)))) := by
 have hpl := hp.len
 refine calls_K (args := [vG p, .int .i64 n]) (n := 64) (env := [(0, vG p), (1, .int .i64 n)]) Tryz.func5 rfl rfl rfl ⟨rfl, rfl, trivial⟩ fun a w hK hM => ?_
 refine wp_seq ?_
 refine rg2 (by kernel_rfl) ?_
 refine sA hK hM 2 25 [.slice p.A1 p.ds.length p.c1, .slice p.A2 p.ts.length p.c2] (fun b => pA b 0) (by kernel_rfl) (by kernel_rfl) fun b1 a w hK hM => ?_
 refine sP hK 4 (.bool false) (by kernel_rfl) (by kernel_rfl) fun a hK => ?_
 refine rps ?_
 refine wp_seq ?_
 refine rg16 (by kernel_rfl) ?_
 refine sM hK 8 1 (by kernel_rfl) (.inl rfl) rfl fun a hK => ?_
 refine sM hK 9 1 (by kernel_rfl) (.inl rfl) rfl fun a hK => ?_
 refine sP hK 10 (.int .i64 (n + 1)) (by kernel_rfl) (run_addZ rfl rfl rfl (by omega) (by omega)) fun a hK => ?_
 refine sP hK 11 (pA b1 0) (by kernel_rfl) (by kernel_rfl) fun a hK => ?_
 refine sL hK 12 (.slice p.A1 p.ds.length p.c1) (by kernel_rfl) rfl rfl ((hM.row 0 rfl).cells 0 1) (by kernel_rfl) fun a hK => ?_
 refine sP hK 13 (.int .i64 ((p.ds.length : Nat) : Int)) (by kernel_rfl) (by kernel_rfl) fun a hK => ?_
 refine sP hK 14 (.int .i64 (min (n + 1) ((p.ds.length : Nat) : Int))) (by kernel_rfl) (run_minI rfl rfl rfl) fun a hK => ?_
 refine sP hK 15 (.int .i64 (n - (min (n + 1) ((p.ds.length : Nat) : Int)))) (by kernel_rfl) (run_subZ rfl rfl rfl (by omega) (by omega)) fun a hK => ?_
 refine sM hK 16 1 (by kernel_rfl) (.inl rfl) rfl fun a hK => ?_
 refine sP hK 17 (.int .i64 (n + 1)) (by kernel_rfl) (run_addZ rfl rfl rfl (by omega) (by omega)) fun a hK => ?_
 refine sP hK 18 (pA b1 1) (by kernel_rfl) (by kernel_rfl) fun a hK => ?_
 refine sL hK 19 (.slice p.A2 p.ts.length p.c2) (by kernel_rfl) rfl rfl ((hM.row 0 rfl).cells 1 1) (by kernel_rfl) fun a hK => ?_
 refine sP hK 20 (.int .i64 ((p.ts.length : Nat) : Int)) (by kernel_rfl) (by kernel_rfl) fun a hK => ?_
 refine sP hK 21 (.int .i64 (min (n + 1) ((p.ts.length : Nat) : Int))) (by kernel_rfl) (run_minI rfl rfl rfl) fun a hK => ?_
 refine sP hK 22 (.int .i64 ((n - (min (n + 1) ((p.ds.length : Nat) : Int))) - (min (n + 1) ((p.ts.length : Nat) : Int)))) (by kernel_rfl) (run_subZ rfl rfl rfl (by omega) (by omega)) fun a hK => ?_
 refine sM hK 5 22 (by kernel_rfl) (.inr rfl) rfl fun a hK => ?_
 refine rps ?_
 refine wp_seq ?_
 refine wp_seq ?_
 refine rg1 (by kernel_rfl) ?_
 refine sP hK 6 (.int .i64 0) (by kernel_rfl) (by kernel_rfl) fun a hK => ?_
 refine rps ?_
 refine wp_block ?_
 refine wLX (fun x : Nat × Int => [(4, .bool false), (2, pA b1 0), (0, vG p), (1, .int .i64 n), (6, .int .i64 ((x.1 : Nat) : Int)), (5, .int .i64 x.2)]) (fun x : Nat × Int => [.row b1 25 [.slice p.A1 p.ds.length p.c1, .slice p.A2 p.ts.length p.c2]]) (fun x : Nat × Int => x.1 ≤ p.ds.length ∧ dcsHf (p.ds.drop x.1) x.2 = dcsHf p.ds (n - min (n + 1) ((p.ds.length : Nat) : Int) - min (n + 1) ((p.ts.length : Nat) : Int)) ∧ x.2 ≤ 1000000) (fun x : Nat × Int => p.ds.length - x.1) (0, ((n - (min (n + 1) ((p.ds.length : Nat) : Int))) - (min (n + 1) ((p.ts.length : Nat) : Int)))) (hK.sub ⟨rfl, rfl, rfl, rfl, rfl, rfl, trivial⟩) hM ⟨Nat.zero_le _, rfl, by omega⟩ ?_
 rintro ⟨i, v⟩ a w hK hM hR
 replace hK : Knows a 64 [(4, .bool false), (2, pA b1 0), (0, vG p), (1, .int .i64 n), (6, vN i), (5, .int .i64 v)] := hK
 replace hM : Mem w0 w [.row b1 25 [.slice p.A1 p.ds.length p.c1, .slice p.A2 p.ts.length p.c2]] := hM
 replace hR : i ≤ p.ds.length ∧ dcsHf (p.ds.drop i) v = dcsHf p.ds (n - min (n + 1) ((p.ds.length : Nat) : Int) - min (n + 1) ((p.ts.length : Nat) : Int)) ∧ v ≤ 1000000 := hR
 refine wp_seq ?_
 refine wp_seq ?_
 refine rg9 (by kernel_rfl) ?_
 refine sM hK 23 6 (by kernel_rfl) (.inl rfl) rfl fun a hK => ?_
 refine sP hK 24 (pA b1 0) (by kernel_rfl) (by kernel_rfl) fun a hK => ?_
 refine sL hK 25 (.slice p.A1 p.ds.length p.c1) (by kernel_rfl) rfl rfl ((hM.row 0 rfl).cells 0 1) (by kernel_rfl) fun a hK => ?_
 refine sP hK 26 (.int .i64 ((p.ds.length : Nat) : Int)) (by kernel_rfl) (by kernel_rfl) fun a hK => ?_
 by_cases h2 : (((i : Nat) : Int) : Int) < ((p.ds.length : Nat) : Int)
 ·refine sP hK 27 (.bool true) (by kernel_rfl) (oB (b := (decide ((((i : Nat) : Int) : Int) < ((p.ds.length : Nat) : Int)))) (by kernel_rfl) (decide_eq_true h2)) fun a hK => ?_
  refine sM hK 28 27 (by kernel_rfl) (.inl rfl) rfl fun a hK => ?_
  refine sM hK 29 5 (by kernel_rfl) (.inl rfl) rfl fun a hK => ?_
  by_cases h3 : (0 : Int) ≤ v
  ·refine sP hK 30 (.bool true) (by kernel_rfl) (oB (b := (decide ((0 : Int) ≤ v))) (by kernel_rfl) (decide_eq_true h3)) fun a hK => ?_
   refine sP hK 31 (.bool true) (by kernel_rfl) (by kernel_rfl) fun a hK => ?_
   refine rps ?_
   refine wp_cond_true (hK.get rfl) ?_
   refine wp_skip ?_
   refine wp_seq ?_
   refine wp_block ?_
   refine rg11 (by kernel_rfl) ?_
   refine sM hK 34 5 (by kernel_rfl) (.inl rfl) rfl fun a hK => ?_
   refine sP hK 35 (pA b1 0) (by kernel_rfl) (by kernel_rfl) fun a hK => ?_
   refine sL hK 36 (.slice p.A1 p.ds.length p.c1) (by kernel_rfl) rfl rfl ((hM.row 0 rfl).cells 0 1) (by kernel_rfl) fun a hK => ?_
   refine sM hK 37 6 (by kernel_rfl) (.inl rfl) rfl fun a hK => ?_
   obtain ⟨t4, ht4⟩ : ∃ t, p.ds[(i : Nat)]? = some t := ⟨_, List.getElem?_eq_getElem (by omega)⟩
   obtain ⟨⟨at4, At4, ct4⟩, et4⟩ := hp.decls _ _ ht4; have nt4 := et4
   refine sP hK 38 (.pointer (some (at4.add (i * 3)))) (by kernel_rfl) (rX (k := i) (s := 3) rfl rfl At4 rfl Tryz.underlying22 (by kernel_rfl) (by omega)) fun a hK => ?_
   refine sP hK 39 (.pointer (some (at4.add (i * 3)))) (by kernel_rfl) (by kernel_rfl) fun a hK => ?_
   refine sL hK 40 (Str t4.nm) (by kernel_rfl) rfl rfl (((ct4.on hM.below)).addZ 1) (by kernel_rfl) fun a hK => ?_
   refine sP hK 41 (.int .i64 ((t4.nm.length : Nat) : Int)) (by kernel_rfl) (by kernel_rfl) fun a hK => ?_
   refine sP hK 42 (.int .i64 (((t4.nm.length / 20) : Nat) : Int)) (by kernel_rfl) (run_quoN (i := t4.nm.length) (j := 20) rfl rfl rfl (by decide) (by omega)) fun a hK => ?_
   refine sP hK 43 (.int .i64 (v - (((t4.nm.length / 20) : Nat) : Int))) (by kernel_rfl) (run_subZ rfl rfl rfl (by omega) (by omega)) fun a hK => ?_
   refine sM hK 5 43 (by kernel_rfl) (.inr rfl) rfl fun a hK => ?_
   refine rps ?_
   refine rg3 (by kernel_rfl) ?_
   refine sM hK 32 6 (by kernel_rfl) (.inl rfl) rfl fun a hK => ?_
   refine sP hK 33 (.int .i64 (((i + 1) : Nat) : Int)) (by kernel_rfl) (run_addN (i := i) (j := 1) rfl rfl rfl (by omega)) fun a hK => ?_
   refine sM hK 6 33 (by kernel_rfl) (.inr rfl) rfl fun a hK => ?_
   refine rps ?_
   have hRn : (i + 1) ≤ p.ds.length ∧ dcsHf (p.ds.drop (i + 1)) ((v - (((t4.nm.length / 20) : Nat) : Int))) = dcsHf p.ds (n - min (n + 1) ((p.ds.length : Nat) : Int) - min (n + 1) ((p.ts.length : Nat) : Int)) ∧ ((v - (((t4.nm.length / 20) : Nat) : Int))) ≤ 1000000 := ⟨by omega, by rw [← dcsHf_step ht4 (by omega)]; exact hR.2.1, by omega⟩
   have hmn : p.ds.length - (i + 1) < p.ds.length - i := by omega
   exact ⟨(i + 1, (v - (((t4.nm.length / 20) : Nat) : Int))), hK.sub ⟨rfl, rfl, rfl, rfl, rfl, rfl, trivial⟩, hM, hRn, hmn⟩
  ·refine sP hK 30 (.bool false) (by kernel_rfl) (oB (b := (decide ((0 : Int) ≤ v))) (by kernel_rfl) (decide_eq_false h3)) fun a hK => ?_
   refine sP hK 31 (.bool false) (by kernel_rfl) (by kernel_rfl) fun a hK => ?_
   refine rps ?_
   refine wp_cond_false (hK.get rfl) ?_
   refine wp_exit (exit_then (exit_then (exit_here 0 ?_)))
   refine wp_seq ?_
   refine wp_seq ?_
   refine rg1 (by kernel_rfl) ?_
   refine sP hK 7 (.int .i64 0) (by kernel_rfl) (by kernel_rfl) fun a hK => ?_
   refine rps ?_
   refine wp_block ?_
   have hv : v = dcsHf p.ds (n - min (n + 1) ((p.ds.length : Nat) : Int) - min (n + 1) ((p.ts.length : Nat) : Int)) := by rw [← hR.2.1]; first | rw [dcsHf_neg _ (by omega)] | (rw [List.drop_of_length_le (by omega), dcsHf])
   refine wLX (fun x : Nat × Int => [(31, .bool false), (4, .bool false), (2, pA b1 0), (0, vG p), (1, .int .i64 n), (6, vN i), (7, .int .i64 ((x.1 : Nat) : Int)), (5, .int .i64 x.2)]) (fun x : Nat × Int => [.row b1 25 [.slice p.A1 p.ds.length p.c1, .slice p.A2 p.ts.length p.c2]]) (fun x : Nat × Int => x.1 ≤ p.ts.length ∧ thsHf (p.ts.drop x.1) x.2 = thsHf p.ts v ∧ x.2 ≤ 1000000) (fun x : Nat × Int => p.ts.length - x.1) (0, v) (hK.sub ⟨rfl, rfl, rfl, rfl, rfl, rfl, rfl, rfl, trivial⟩) hM ⟨Nat.zero_le _, rfl, hR.2.2⟩ ?_
   rintro ⟨j, u⟩ a w hK hM hR
   replace hK : Knows a 64 [(31, .bool false), (4, .bool false), (2, pA b1 0), (0, vG p), (1, .int .i64 n), (6, vN i), (7, vN j), (5, .int .i64 u)] := hK
   replace hM : Mem w0 w [.row b1 25 [.slice p.A1 p.ds.length p.c1, .slice p.A2 p.ts.length p.c2]] := hM
   replace hR : j ≤ p.ts.length ∧ thsHf (p.ts.drop j) u = thsHf p.ts v ∧ u ≤ 1000000 := hR
   refine wp_seq ?_
   refine wp_seq ?_
   refine rg9 (by kernel_rfl) ?_
   refine sM hK 44 7 (by kernel_rfl) (.inl rfl) rfl fun a hK => ?_
   refine sP hK 45 (pA b1 1) (by kernel_rfl) (by kernel_rfl) fun a hK => ?_
   refine sL hK 46 (.slice p.A2 p.ts.length p.c2) (by kernel_rfl) rfl rfl ((hM.row 0 rfl).cells 1 1) (by kernel_rfl) fun a hK => ?_
   refine sP hK 47 (.int .i64 ((p.ts.length : Nat) : Int)) (by kernel_rfl) (by kernel_rfl) fun a hK => ?_
   by_cases h5 : (((j : Nat) : Int) : Int) < ((p.ts.length : Nat) : Int)
   ·refine sP hK 48 (.bool true) (by kernel_rfl) (oB (b := (decide ((((j : Nat) : Int) : Int) < ((p.ts.length : Nat) : Int)))) (by kernel_rfl) (decide_eq_true h5)) fun a hK => ?_
    refine sM hK 49 48 (by kernel_rfl) (.inl rfl) rfl fun a hK => ?_
    refine sM hK 50 5 (by kernel_rfl) (.inl rfl) rfl fun a hK => ?_
    by_cases h6 : (0 : Int) ≤ u
    ·refine sP hK 51 (.bool true) (by kernel_rfl) (oB (b := (decide ((0 : Int) ≤ u))) (by kernel_rfl) (decide_eq_true h6)) fun a hK => ?_
     refine sP hK 52 (.bool true) (by kernel_rfl) (by kernel_rfl) fun a hK => ?_
     refine rps ?_
     refine wp_cond_true (hK.get rfl) ?_
     refine wp_skip ?_
     refine wp_seq ?_
     refine wp_block ?_
     refine rg8 (by kernel_rfl) ?_
     refine sP hK 55 (pA b1 1) (by kernel_rfl) (by kernel_rfl) fun a hK => ?_
     refine sL hK 56 (.slice p.A2 p.ts.length p.c2) (by kernel_rfl) rfl rfl ((hM.row 0 rfl).cells 1 1) (by kernel_rfl) fun a hK => ?_
     refine sM hK 57 7 (by kernel_rfl) (.inl rfl) rfl fun a hK => ?_
     obtain ⟨t7, ht7⟩ : ∃ t, p.ts[(j : Nat)]? = some t := ⟨_, List.getElem?_eq_getElem (by omega)⟩
     obtain ⟨⟨at7, At7, ct7⟩, et7⟩ := hp.threads _ _ ht7; have nt7 := et7.2
     refine sP hK 58 (.pointer (some (at7.add (j * 1)))) (by kernel_rfl) (rX (k := j) (s := 1) rfl rfl At7 rfl Tryz.underlying23 (by kernel_rfl) (by omega)) fun a hK => ?_
     refine sL hK 59 (.slice t7.A t7.l.length t7.c) (by kernel_rfl) rfl rfl ((ct7.on hM.below)) (by kernel_rfl) fun a hK => ?_
     refine sM hK 60 5 (by kernel_rfl) (.inl rfl) rfl fun a hK => ?_
     refine sR hK hM 61 #[.slice t7.A t7.l.length t7.c, .int .i64 u] (.int .i64 (smsHf t7.l u)) (by kernel_rfl) (rC en_cantileverkit_hefts rfl rfl (by kernel_rfl)) (kit_hefts t7.l _ _ u _ (et7.1.on hM.below) (by omega) (by omega) (by omega)) fun a w hK hM => ?_
     refine sM hK 5 61 (by kernel_rfl) (.inr rfl) rfl fun a hK => ?_
     refine rps ?_
     refine rg3 (by kernel_rfl) ?_
     refine sM hK 53 7 (by kernel_rfl) (.inl rfl) rfl fun a hK => ?_
     refine sP hK 54 (.int .i64 (((j + 1) : Nat) : Int)) (by kernel_rfl) (run_addN (i := j) (j := 1) rfl rfl rfl (by omega)) fun a hK => ?_
     refine sM hK 7 54 (by kernel_rfl) (.inr rfl) rfl fun a hK => ?_
     refine rps ?_
     have hRn : (j + 1) ≤ p.ts.length ∧ thsHf (p.ts.drop (j + 1)) ((smsHf t7.l u)) = thsHf p.ts v ∧ ((smsHf t7.l u)) ≤ 1000000 := ⟨by omega, by rw [← thsHf_step ht7 (by omega)]; exact hR.2.1, by have h1 := smsHf_sz t7.l u; omega⟩
     have hmn : p.ts.length - (j + 1) < p.ts.length - j := by omega
     exact ⟨(j + 1, (smsHf t7.l u)), hK.sub ⟨rfl, rfl, rfl, rfl, rfl, rfl, rfl, rfl, trivial⟩, hM, hRn, hmn⟩
    ·refine sP hK 51 (.bool false) (by kernel_rfl) (oB (b := (decide ((0 : Int) ≤ u))) (by kernel_rfl) (decide_eq_false h6)) fun a hK => ?_
     refine sP hK 52 (.bool false) (by kernel_rfl) (by kernel_rfl) fun a hK => ?_
     refine rps ?_
     refine wp_cond_false (hK.get rfl) ?_
     refine wp_exit (exit_then (exit_then (exit_here 2 ?_)))
     refine wp_seq ?_
     refine rg3 (by kernel_rfl) ?_
     refine sM hK 62 5 (by kernel_rfl) (.inl rfl) rfl fun a hK => ?_
     refine sP hK 63 (.bool false) (by kernel_rfl) (oB (b := (decide ((0 : Int) ≤ u))) (by kernel_rfl) (decide_eq_false h6)) fun a hK => ?_
     refine sM hK 4 63 (by kernel_rfl) (.inr rfl) rfl fun a hK => ?_
     refine rps ?_
     refine wp_ret ?_
     exact ret_t hK rfl (u := (.bool false)) rfl (⟨by have hu : pgHf p n = u := (by unfold pgHf; rw [← hv, ← hR.2.1]; (first | rw [thsHf_neg _ (by omega)] | rw [List.drop_of_length_le (by omega), thsHf])); rw [hu, (decide_eq_false h6)], hM.below⟩)
   ·refine sP hK 48 (.bool false) (by kernel_rfl) (oB (b := (decide ((((j : Nat) : Int) : Int) < ((p.ts.length : Nat) : Int)))) (by kernel_rfl) (decide_eq_false h5)) fun a hK => ?_
    refine sM hK 49 48 (by kernel_rfl) (.inl rfl) rfl fun a hK => ?_
    refine sN hK 50 (by kernel_rfl) fun a hK => ?_
    refine sN hK 51 (by kernel_rfl) fun a hK => ?_
    refine sP hK 52 (.bool false) (by kernel_rfl) (by kernel_rfl) fun a hK => ?_
    refine rps ?_
    refine wp_cond_false (hK.get rfl) ?_
    refine wp_exit (exit_then (exit_then (exit_here 2 ?_)))
    refine wp_seq ?_
    refine rg3 (by kernel_rfl) ?_
    refine sM hK 62 5 (by kernel_rfl) (.inl rfl) rfl fun a hK => ?_
    by_cases h8 : (0 : Int) ≤ u
    ·refine sP hK 63 (.bool true) (by kernel_rfl) (oB (b := (decide ((0 : Int) ≤ u))) (by kernel_rfl) (decide_eq_true h8)) fun a hK => ?_
     refine sM hK 4 63 (by kernel_rfl) (.inr rfl) rfl fun a hK => ?_
     refine rps ?_
     refine wp_ret ?_
     exact ret_t hK rfl (u := (.bool true)) rfl (⟨by have hu : pgHf p n = u := (by unfold pgHf; rw [← hv, ← hR.2.1]; (first | rw [thsHf_neg _ (by omega)] | rw [List.drop_of_length_le (by omega), thsHf])); rw [hu, (decide_eq_true h8)], hM.below⟩)
    ·refine sP hK 63 (.bool false) (by kernel_rfl) (oB (b := (decide ((0 : Int) ≤ u))) (by kernel_rfl) (decide_eq_false h8)) fun a hK => ?_
     refine sM hK 4 63 (by kernel_rfl) (.inr rfl) rfl fun a hK => ?_
     refine rps ?_
     refine wp_ret ?_
     exact ret_t hK rfl (u := (.bool false)) rfl (⟨by have hu : pgHf p n = u := (by unfold pgHf; rw [← hv, ← hR.2.1]; (first | rw [thsHf_neg _ (by omega)] | rw [List.drop_of_length_le (by omega), thsHf])); rw [hu, (decide_eq_false h8)], hM.below⟩)
 ·refine sP hK 27 (.bool false) (by kernel_rfl) (oB (b := (decide ((((i : Nat) : Int) : Int) < ((p.ds.length : Nat) : Int)))) (by kernel_rfl) (decide_eq_false h2)) fun a hK => ?_
  refine sM hK 28 27 (by kernel_rfl) (.inl rfl) rfl fun a hK => ?_
  refine sN hK 29 (by kernel_rfl) fun a hK => ?_
  refine sN hK 30 (by kernel_rfl) fun a hK => ?_
  refine sP hK 31 (.bool false) (by kernel_rfl) (by kernel_rfl) fun a hK => ?_
  refine rps ?_
  refine wp_cond_false (hK.get rfl) ?_
  refine wp_exit (exit_then (exit_then (exit_here 0 ?_)))
  refine wp_seq ?_
  refine wp_seq ?_
  refine rg1 (by kernel_rfl) ?_
  refine sP hK 7 (.int .i64 0) (by kernel_rfl) (by kernel_rfl) fun a hK => ?_
  refine rps ?_
  refine wp_block ?_
  have hv : v = dcsHf p.ds (n - min (n + 1) ((p.ds.length : Nat) : Int) - min (n + 1) ((p.ts.length : Nat) : Int)) := by rw [← hR.2.1]; first | rw [dcsHf_neg _ (by omega)] | (rw [List.drop_of_length_le (by omega), dcsHf])
  refine wLX (fun x : Nat × Int => [(31, .bool false), (4, .bool false), (2, pA b1 0), (0, vG p), (1, .int .i64 n), (6, vN i), (7, .int .i64 ((x.1 : Nat) : Int)), (5, .int .i64 x.2)]) (fun x : Nat × Int => [.row b1 25 [.slice p.A1 p.ds.length p.c1, .slice p.A2 p.ts.length p.c2]]) (fun x : Nat × Int => x.1 ≤ p.ts.length ∧ thsHf (p.ts.drop x.1) x.2 = thsHf p.ts v ∧ x.2 ≤ 1000000) (fun x : Nat × Int => p.ts.length - x.1) (0, v) (hK.sub ⟨rfl, rfl, rfl, rfl, rfl, rfl, rfl, rfl, trivial⟩) hM ⟨Nat.zero_le _, rfl, hR.2.2⟩ ?_
  rintro ⟨j, u⟩ a w hK hM hR
  replace hK : Knows a 64 [(31, .bool false), (4, .bool false), (2, pA b1 0), (0, vG p), (1, .int .i64 n), (6, vN i), (7, vN j), (5, .int .i64 u)] := hK
  replace hM : Mem w0 w [.row b1 25 [.slice p.A1 p.ds.length p.c1, .slice p.A2 p.ts.length p.c2]] := hM
  replace hR : j ≤ p.ts.length ∧ thsHf (p.ts.drop j) u = thsHf p.ts v ∧ u ≤ 1000000 := hR
  refine wp_seq ?_
  refine wp_seq ?_
  refine rg9 (by kernel_rfl) ?_
  refine sM hK 44 7 (by kernel_rfl) (.inl rfl) rfl fun a hK => ?_
  refine sP hK 45 (pA b1 1) (by kernel_rfl) (by kernel_rfl) fun a hK => ?_
  refine sL hK 46 (.slice p.A2 p.ts.length p.c2) (by kernel_rfl) rfl rfl ((hM.row 0 rfl).cells 1 1) (by kernel_rfl) fun a hK => ?_
  refine sP hK 47 (.int .i64 ((p.ts.length : Nat) : Int)) (by kernel_rfl) (by kernel_rfl) fun a hK => ?_
  by_cases h9 : (((j : Nat) : Int) : Int) < ((p.ts.length : Nat) : Int)
  ·refine sP hK 48 (.bool true) (by kernel_rfl) (oB (b := (decide ((((j : Nat) : Int) : Int) < ((p.ts.length : Nat) : Int)))) (by kernel_rfl) (decide_eq_true h9)) fun a hK => ?_
   refine sM hK 49 48 (by kernel_rfl) (.inl rfl) rfl fun a hK => ?_
   refine sM hK 50 5 (by kernel_rfl) (.inl rfl) rfl fun a hK => ?_
   by_cases h10 : (0 : Int) ≤ u
   ·refine sP hK 51 (.bool true) (by kernel_rfl) (oB (b := (decide ((0 : Int) ≤ u))) (by kernel_rfl) (decide_eq_true h10)) fun a hK => ?_
    refine sP hK 52 (.bool true) (by kernel_rfl) (by kernel_rfl) fun a hK => ?_
    refine rps ?_
    refine wp_cond_true (hK.get rfl) ?_
    refine wp_skip ?_
    refine wp_seq ?_
    refine wp_block ?_
    refine rg8 (by kernel_rfl) ?_
    refine sP hK 55 (pA b1 1) (by kernel_rfl) (by kernel_rfl) fun a hK => ?_
    refine sL hK 56 (.slice p.A2 p.ts.length p.c2) (by kernel_rfl) rfl rfl ((hM.row 0 rfl).cells 1 1) (by kernel_rfl) fun a hK => ?_
    refine sM hK 57 7 (by kernel_rfl) (.inl rfl) rfl fun a hK => ?_
    obtain ⟨t11, ht11⟩ : ∃ t, p.ts[(j : Nat)]? = some t := ⟨_, List.getElem?_eq_getElem (by omega)⟩
    obtain ⟨⟨at11, At11, ct11⟩, et11⟩ := hp.threads _ _ ht11; have nt11 := et11.2
    refine sP hK 58 (.pointer (some (at11.add (j * 1)))) (by kernel_rfl) (rX (k := j) (s := 1) rfl rfl At11 rfl Tryz.underlying23 (by kernel_rfl) (by omega)) fun a hK => ?_
    refine sL hK 59 (.slice t11.A t11.l.length t11.c) (by kernel_rfl) rfl rfl ((ct11.on hM.below)) (by kernel_rfl) fun a hK => ?_
    refine sM hK 60 5 (by kernel_rfl) (.inl rfl) rfl fun a hK => ?_
    refine sR hK hM 61 #[.slice t11.A t11.l.length t11.c, .int .i64 u] (.int .i64 (smsHf t11.l u)) (by kernel_rfl) (rC en_cantileverkit_hefts rfl rfl (by kernel_rfl)) (kit_hefts t11.l _ _ u _ (et11.1.on hM.below) (by omega) (by omega) (by omega)) fun a w hK hM => ?_
    refine sM hK 5 61 (by kernel_rfl) (.inr rfl) rfl fun a hK => ?_
    refine rps ?_
    refine rg3 (by kernel_rfl) ?_
    refine sM hK 53 7 (by kernel_rfl) (.inl rfl) rfl fun a hK => ?_
    refine sP hK 54 (.int .i64 (((j + 1) : Nat) : Int)) (by kernel_rfl) (run_addN (i := j) (j := 1) rfl rfl rfl (by omega)) fun a hK => ?_
    refine sM hK 7 54 (by kernel_rfl) (.inr rfl) rfl fun a hK => ?_
    refine rps ?_
    have hRn : (j + 1) ≤ p.ts.length ∧ thsHf (p.ts.drop (j + 1)) ((smsHf t11.l u)) = thsHf p.ts v ∧ ((smsHf t11.l u)) ≤ 1000000 := ⟨by omega, by rw [← thsHf_step ht11 (by omega)]; exact hR.2.1, by have h1 := smsHf_sz t11.l u; omega⟩
    have hmn : p.ts.length - (j + 1) < p.ts.length - j := by omega
    exact ⟨(j + 1, (smsHf t11.l u)), hK.sub ⟨rfl, rfl, rfl, rfl, rfl, rfl, rfl, rfl, trivial⟩, hM, hRn, hmn⟩
   ·refine sP hK 51 (.bool false) (by kernel_rfl) (oB (b := (decide ((0 : Int) ≤ u))) (by kernel_rfl) (decide_eq_false h10)) fun a hK => ?_
    refine sP hK 52 (.bool false) (by kernel_rfl) (by kernel_rfl) fun a hK => ?_
    refine rps ?_
    refine wp_cond_false (hK.get rfl) ?_
    refine wp_exit (exit_then (exit_then (exit_here 2 ?_)))
    refine wp_seq ?_
    refine rg3 (by kernel_rfl) ?_
    refine sM hK 62 5 (by kernel_rfl) (.inl rfl) rfl fun a hK => ?_
    refine sP hK 63 (.bool false) (by kernel_rfl) (oB (b := (decide ((0 : Int) ≤ u))) (by kernel_rfl) (decide_eq_false h10)) fun a hK => ?_
    refine sM hK 4 63 (by kernel_rfl) (.inr rfl) rfl fun a hK => ?_
    refine rps ?_
    refine wp_ret ?_
    exact ret_t hK rfl (u := (.bool false)) rfl (⟨by have hu : pgHf p n = u := (by unfold pgHf; rw [← hv, ← hR.2.1]; (first | rw [thsHf_neg _ (by omega)] | rw [List.drop_of_length_le (by omega), thsHf])); rw [hu, (decide_eq_false h10)], hM.below⟩)
  ·refine sP hK 48 (.bool false) (by kernel_rfl) (oB (b := (decide ((((j : Nat) : Int) : Int) < ((p.ts.length : Nat) : Int)))) (by kernel_rfl) (decide_eq_false h9)) fun a hK => ?_
   refine sM hK 49 48 (by kernel_rfl) (.inl rfl) rfl fun a hK => ?_
   refine sN hK 50 (by kernel_rfl) fun a hK => ?_
   refine sN hK 51 (by kernel_rfl) fun a hK => ?_
   refine sP hK 52 (.bool false) (by kernel_rfl) (by kernel_rfl) fun a hK => ?_
   refine rps ?_
   refine wp_cond_false (hK.get rfl) ?_
   refine wp_exit (exit_then (exit_then (exit_here 2 ?_)))
   refine wp_seq ?_
   refine rg3 (by kernel_rfl) ?_
   refine sM hK 62 5 (by kernel_rfl) (.inl rfl) rfl fun a hK => ?_
   by_cases h12 : (0 : Int) ≤ u
   ·refine sP hK 63 (.bool true) (by kernel_rfl) (oB (b := (decide ((0 : Int) ≤ u))) (by kernel_rfl) (decide_eq_true h12)) fun a hK => ?_
    refine sM hK 4 63 (by kernel_rfl) (.inr rfl) rfl fun a hK => ?_
    refine rps ?_
    refine wp_ret ?_
    exact ret_t hK rfl (u := (.bool true)) rfl (⟨by have hu : pgHf p n = u := (by unfold pgHf; rw [← hv, ← hR.2.1]; (first | rw [thsHf_neg _ (by omega)] | rw [List.drop_of_length_le (by omega), thsHf])); rw [hu, (decide_eq_true h12)], hM.below⟩)
   ·refine sP hK 63 (.bool false) (by kernel_rfl) (oB (b := (decide ((0 : Int) ≤ u))) (by kernel_rfl) (decide_eq_false h12)) fun a hK => ?_
    refine sM hK 4 63 (by kernel_rfl) (.inr rfl) rfl fun a hK => ?_
    refine rps ?_
    refine wp_ret ?_
    exact ret_t hK rfl (u := (.bool false)) rfl (⟨by have hu : pgHf p n = u := (by unfold pgHf; rw [← hv, ← hR.2.1]; (first | rw [thsHf_neg _ (by omega)] | rw [List.drop_of_length_le (by omega), thsHf])); rw [hu, (decide_eq_false h12)], hM.below⟩)
end Go.Proofs.YtiigncmpbkfhmaaGreatDoor
namespace Go.Proofs.YtiigncmpbkfhmaaGreatDoor
open Go Go.RowKit
def res {X : Type} [Inhabited X] (D : List Nat) (χ : Nat → X) : Nat → X := fun k => if D.contains k = true then χ k else default
inductive Kg (X : Type) where
  | val (v : (Nat → X) → Value)
  | skip
  | give (v : X → Value) (g : X → List It) (R : (Nat → X) → X → Prop)
section
variable {X : Type} [Inhabited X]
def depG (Ds : List (List Nat)) (i : Nat) : List Nat := Ds.getD i []
def kgV (Ds : List (List Nat)) (χ : Nat → X) (i : Nat) : Kg X → Option Value
  | .val v => some (v (res (depG Ds i) χ))
  | .skip => some undef
  | .give v _ _ => some (v (χ i))
def vsG (ks : List (Kg X)) (Ds : List (List Nat)) (χ : Nat → X) : List (Option Value) := ks.zipIdx.map fun p => kgV Ds χ p.2 p.1
def itG (χ : Nat → X) (L : Nat → Bool) (p : Kg X × Nat) : List It := match p.1 with
  | .give _ g _ => if L p.2 = true then g (χ p.2) else []
  | _ => []
def itsG (ks : List (Kg X)) (χ : Nat → X) (L : Nat → Bool) : List It := ks.zipIdx.flatMap (itG χ L)
def relG (ks : List (Kg X)) (Ds : List (List Nat)) (χ : Nat → X) (k : Nat) : Prop := match ks[k]? with
  | some (.give _ _ R) => R (res (depG Ds k) χ) (χ k)
  | _ => True
def hasG (Ds : List (List Nat)) (i k : Nat) : Bool := (depG Ds i).contains k
def depsOk (ops : Array Oper) (Ds : List (List Nat)) : Bool := (List.range ops.size).all fun i => match ops[i]? with
  | some o => (depG Ds i).all fun k => o.after.any fun e => Nat.beq e.on k || (depG Ds e.on).contains k
  | none => true
omit [Inhabited X] in
theorem zipg {ks : List (Kg X)} {p : Kg X × Nat} (h : p ∈ ks.zipIdx) : ks[p.2]? = some p.1 := by
  obtain ⟨j, hj, rfl⟩ := List.getElem_of_mem h
  simp at hj ⊢
theorem vsG_get (ks : List (Kg X)) (Ds : List (List Nat)) (χ : Nat → X) (j : Nat) : (vsG ks Ds χ).getD j none = (ks[j]?).bind (kgV Ds χ j) := by
  unfold vsG
  rw [List.getD_eq_getElem?_getD, List.getElem?_map, List.getElem?_zipIdx]
  cases ks[j]? <;> simp
def updG (χ : Nat → X) (i : Nat) (x : X) : Nat → X := fun k => if k = i then x else χ k
theorem res_upd {D : List Nat} {χ : Nat → X} {i : Nat} {x : X} (h : D.contains i = false) : res D (updG χ i x) = res D χ := by
  funext k
  unfold res updG
  by_cases hk : k = i
  · subst hk; rw [h]; simp
  · rw [if_neg hk]
inductive PayG (P : Program) (ops : Array Oper) (ks : List (Kg X)) (Ds : List (List Nat)) (env : List (Nat × Value)) (w0 : World) (its : List It) (i : Nat) : Prop
  | val (v : (Nat → X) → Value) (hk : ks[i]? = some (.val v)) (hc : ∀ χ, chkM ops (vsG ks Ds χ) env i = true) (hr : ∀ χ w, (∀ k, hasG Ds i k = true → relG ks Ds χ k) → Mem w0 w (itsG ks χ (hasG Ds i) ++ its) → (execOp (evE (envM ops (vsG ks Ds χ) env i (opAt ops i))) (opAt ops i)).run P w = .ok (.value (v (res (depG Ds i) χ))) w)
  | call (f : FuncId) (args : (Nat → X) → Array Value) (v : (Nat → X) → Value) (hk : ks[i]? = some (.val v)) (hc : ∀ χ, chkM ops (vsG ks Ds χ) env i = true) (he : ∀ χ w, (execOp (evE (envM ops (vsG ks Ds χ) env i (opAt ops i))) (opAt ops i)).run P w = .ok (.enter f (args χ)) w)
      (hcall : ∀ χ w, (∀ k, hasG Ds i k = true → relG ks Ds χ k) → Mem w0 w (itsG ks χ (hasG Ds i) ++ its) → Calls P f (args χ) w (Ret w (v (res (depG Ds i) χ))))
  | skip (hk : ks[i]? = some .skip) (hc : ∀ χ, chkMN ops (vsG ks Ds χ) env i = true)
  | lay (v : X → Value) (g : X → List It) (R : (Nat → X) → X → Prop) (hk : ks[i]? = some (.give v g R)) (hc : ∀ χ, chkM ops (vsG ks Ds χ) env i = true) (hr : ∀ χ w, (∀ k, hasG Ds i k = true → relG ks Ds χ k) → Mem w0 w (itsG ks χ (hasG Ds i) ++ its) → ∃ x w', (execOp (evE (envM ops (vsG ks Ds χ) env i (opAt ops i))) (opAt ops i)).run P w = .ok (.value (v x)) w' ∧ Mem w w' (g x) ∧ R (res (depG Ds i) χ) x)
  | give {τ : Type} (f : FuncId) (args : (Nat → X) → Array Value) (v : X → Value) (g : X → List It) (R : (Nat → X) → X → Prop) (fv : (Nat → X) → τ → Value) (gg : (Nat → X) → τ → List It) (R0 : (Nat → X) → τ → Prop) (φ : τ → X) (hk : ks[i]? = some (.give v g R)) (hc : ∀ χ, chkM ops (vsG ks Ds χ) env i = true) (he : ∀ χ w, (execOp (evE (envM ops (vsG ks Ds χ) env i (opAt ops i))) (opAt ops i)).run P w = .ok (.enter f (args χ)) w)
      (hcall : ∀ χ w, (∀ k, hasG Ds i k = true → relG ks Ds χ k) → Mem w0 w (itsG ks χ (hasG Ds i) ++ its) → Calls P f (args χ) w (Gives w (fv χ) (gg χ) (R0 χ)))
      (hv : ∀ χ x, fv χ x = v (φ x)) (hg : ∀ χ x, gg χ x = g (φ x)) (hR : ∀ χ x, (∀ k, hasG Ds i k = true → relG ks Ds χ k) → R0 χ x → R (res (depG Ds i) χ) (φ x))
structure InvG (ops : Array Oper) (ks : List (Kg X)) (Ds : List (List Nat)) (n : Nat) (a0 : Act) (w0 : World) (its : List It) (χ : Nat → X) (L : Nat → Bool) (a : Act) (w : World) : Prop where
  size : a.tmps.size = n
  defers : a.defers = []
  outer : ∀ s, (∀ i, slotOf ops i = some s → L i = false) → a.tmps[s]? = a0.tmps[s]?
  vals : ∀ j v, L j = true → slotOf ops j ≠ none → (vsG ks Ds χ).getD j none = some v → vat ops a j = v
  rel : ∀ j, L j = true → relG ks Ds χ j
  mem : Mem w0 w (itsG ks χ L ++ its)
  down : ∀ i o, ops[i]? = some o → L i = true → ∀ e ∈ o.after, L e.on = true
  deps : ∀ j k, L j = true → hasG Ds j k = true → L k = true
variable {P : Program} {ops : Array Oper} {Q : Exit → Act → World → Prop} {ks : List (Kg X)} {Ds : List (List Nat)} {n : Nat} {a0 a : Act} {w0 w : World} {its : List It} {χ : Nat → X} {L : Nat → Bool} {i : Nat} {o : Oper} {env : List (Nat × Value)}
theorem InvG.yet (hK : Knows a0 n env) (st : InvG ops ks Ds n a0 w0 its χ L a w) (hLi : L i = false) {k : Nat} {v : Value} (hk : keyYet ops i k = true) (hv : look k env = some v) : a.eval (.tmp k) = v := by
  rw [← hK.val k v hv]
  show a.tmps.getD k undef = a0.tmps.getD k undef
  rw [Array.getD_eq_getD_getElem?, Array.getD_eq_getD_getElem?, st.outer k (fun j hj => ?_)]
  cases hoj : ops[j]? with
  | none => unfold slotOf at hj; rw [hoj] at hj; cases hj
  | some oj =>
    have hlt : j < ops.size := (Array.getElem?_eq_some_iff.1 hoj).1
    have h := List.all_eq_true.1 hk j (by simpa using hlt)
    rw [hj, hoj] at h
    simp only [bne_self_eq_false, Bool.false_or] at h
    obtain ⟨e, he, hon⟩ := Array.any_eq_true'.1 h
    cases hLj : L j with
    | false => rfl
    | true =>
      have h1 := st.down j oj hoj hLj e he
      rw [Nat.eq_of_beq_eq_true hon, hLi] at h1; cases h1
theorem InvG.knows (hK : Knows a0 n env) (st : InvG ops ks Ds n a0 w0 its χ L a w) (hLi : L i = false) (haft : ∀ e ∈ o.after, L e.on = true) : Knows a n (envM ops (vsG ks Ds χ) env i o) := by
  refine ⟨st.size, st.defers, fun k v h => ?_⟩
  unfold envM at h
  rw [look_append] at h
  split at h
  · rename_i u hu
    obtain rfl := Option.some.inj h
    have hm := look_mem hu
    rw [List.mem_filterMap] at hm
    obtain ⟨e, he, hx⟩ := hm
    cases hs : slotOf ops e.on with
    | none => rw [hs] at hx; cases hx
    | some d =>
      cases hv : (vsG ks Ds χ).getD e.on none with
      | none => rw [hs, hv] at hx; cases hx
      | some u' =>
        rw [hs, hv] at hx
        simp only [Option.some.injEq, Prod.mk.injEq] at hx
        obtain ⟨rfl, rfl⟩ := hx
        rw [eval_slot hs]
        exact st.vals e.on _ (haft e (by simpa using he)) (by rw [hs]; simp) hv
  · obtain ⟨h1, h2⟩ := look_filter h
    exact st.yet hK hLi h1 h2
omit [Inhabited X] in
theorem itsG_sub {L' : Nat → Bool} (h : ∀ k, L' k = true → L k = true) : (itsG ks χ L').Sublist (itsG ks χ L) := by
  unfold itsG
  generalize ks.zipIdx = l
  induction l with
  | nil => exact List.Sublist.refl _
  | cons p l ih =>
    rw [List.flatMap_cons, List.flatMap_cons]
    refine List.Sublist.append ?_ ih
    unfold itG
    rcases p.1 with _ | _ | ⟨v, g, R⟩
    · exact List.Sublist.refl _
    · exact List.Sublist.refl _
    · show (if L' p.2 = true then g (χ p.2) else []).Sublist (if L p.2 = true then g (χ p.2) else [])
      cases hl : L' p.2 with
      | false => exact List.nil_sublist _
      | true => rw [if_pos rfl, if_pos (h _ hl)]; exact List.Sublist.refl _
theorem flatMap_one {α β : Type} {f g : α → List β} {b : List β} : ∀ {l : List α} {i : Nat} {x : α}, l[i]? = some x → f x = [] → g x = b → (∀ (j : Nat) (y : α), j ≠ i → l[j]? = some y → f y = g y) → (b ++ l.flatMap f).Perm (l.flatMap g) := by
  intro l
  induction l with
  | nil => intro i x h; simp at h
  | cons a l ih =>
    intro i x h hf hg he
    cases i with
    | zero =>
      obtain rfl := Option.some.inj h
      rw [List.flatMap_cons, List.flatMap_cons, hf, hg, List.nil_append]
      have : l.flatMap f = l.flatMap g := by
        rw [List.flatMap_def, List.flatMap_def]
        congr 1
        apply List.map_congr_left
        intro y hy
        obtain ⟨j, hj, rfl⟩ := List.getElem_of_mem hy
        exact he (j + 1) _ (by omega) (by rw [List.getElem?_cons_succ, List.getElem?_eq_getElem hj])
      rw [this]
    | succ i =>
      have h1 := he 0 a (by omega) rfl
      have hrec := ih (i := i) (by simpa using h) hf hg (fun j y hj hy => he (j + 1) y (by omega) (by simpa using hy))
      rw [List.flatMap_cons, List.flatMap_cons, ← h1]
      refine (List.Perm.trans ?_ (hrec.append_left (f a)))
      rw [← List.append_assoc, ← List.append_assoc]
      exact (List.perm_append_comm).append_right _
theorem InvG.step (st : InvG ops ks Ds n a0 w0 its χ L a w) (hwf : wfR ops n = true) (ho : ops[i]? = some o) (haft : ∀ e ∈ o.after, L e.on = true) (hLi : L i = false) (hdo : ∀ k, hasG Ds i k = true → L k = true) {v : Value} {w' : World} {χ' : Nat → X} (hχ : ∀ j, j ≠ i → χ' j = χ j) (hv : ∀ u, slotOf ops i ≠ none → (vsG ks Ds χ').getD i none = some u → v = u) (hr : relG ks Ds χ' i) (hm : Mem w0 w' (itsG ks χ' (upL L i) ++ its)) : InvG ops ks Ds n a0 w0 its χ' (upL L i) (a.put o.dst v) w' := by
  have hsl : slotOf ops i = o.dst := by unfold slotOf; rw [ho]; rfl
  have hres : ∀ j, L j = true → res (depG Ds j) χ' = res (depG Ds j) χ := by
    intro j hj
    have hni : (depG Ds j).contains i = false := by
      cases hc : (depG Ds j).contains i with
      | false => rfl
      | true => have := st.deps j i hj hc; rw [hLi] at this; cases this
    have e : χ' = updG χ i (χ' i) := by
      funext k
      unfold updG
      by_cases hk : k = i
      · rw [if_pos hk, hk]
      · rw [if_neg hk, hχ k hk]
    rw [e, res_upd hni]
  refine ⟨by rw [size_put]; exact st.size, by rw [defers_put]; exact st.defers, fun s hs => ?_, fun j u hj hsj hu => ?_, fun j hj => ?_, hm, fun j o' ho' hj e he => ?_, fun j k hj hk => ?_⟩
  · rw [← st.outer s (fun j hj => (by have h := hs j hj; cases hl : L j with
      | false => rfl
      | true => unfold upL at h; rw [hl] at h; simp at h))]
    cases hd : o.dst with
    | none => rfl
    | some d =>
      show (a.tmps.setIfInBounds d v)[s]? = _
      rw [Array.getElem?_setIfInBounds, if_neg (fun e => (by have h := hs i (by rw [hsl, hd, e]); rw [upL_self] at h; cases h))]
  · by_cases hji : j = i
    · subst hji
      rw [vat_put hwf st.size ho (by rw [← hsl]; exact hsj) rfl]
      exact hv u hsj hu
    · rw [vat_put_far hwf ho hji]
      rw [upL_ne hji] at hj
      refine st.vals j u hj hsj ?_
      rw [vsG_get] at hu ⊢
      cases hk : ks[j]? with
      | none => rw [hk] at hu; cases hu
      | some k =>
        rw [hk] at hu
        rw [Option.bind_some] at hu ⊢
        rw [← hu]
        cases k with
        | val f => show some (f (res (depG Ds j) χ)) = some (f (res (depG Ds j) χ')); rw [hres j hj]
        | skip => rfl
        | give f g R => show some (f (χ j)) = some (f (χ' j)); rw [hχ j hji]
  · by_cases hji : j = i
    · subst hji; exact hr
    · rw [upL_ne hji] at hj
      have h1 := st.rel j hj
      unfold relG at h1 ⊢
      cases hk : ks[j]? with
      | none => trivial
      | some k =>
        cases k with
        | val f => trivial
        | skip => trivial
        | give f g R =>
          rw [hk] at h1
          show R (res (depG Ds j) χ') (χ' j)
          rw [hres j hj, hχ j hji]; exact h1
  · by_cases hji : j = i
    · subst hji
      rw [ho] at ho'
      obtain rfl := Option.some.inj ho'
      by_cases hei : e.on = j
      · rw [hei]; exact upL_self _ _
      · rw [upL_ne hei]; exact haft e he
    · rw [upL_ne hji] at hj
      by_cases hei : e.on = i
      · rw [hei]; exact upL_self _ _
      · rw [upL_ne hei]; exact st.down j o' ho' hj e he
  · have h1 : L k = true := by
      by_cases hji : j = i
      · subst hji; exact hdo k hk
      · rw [upL_ne hji] at hj; exact st.deps j k hj hk
    by_cases hki : k = i
    · subst hki; exact upL_self _ _
    · rw [upL_ne hki]; exact h1
omit [Inhabited X] in
theorem itsG_same (hk : ∀ k, ks[i]? = some k → ∀ v g R, k ≠ .give v g R) : itsG ks χ (upL L i) = itsG ks χ L := by
  unfold itsG
  rw [List.flatMap_def, List.flatMap_def]
  congr 1
  apply List.map_congr_left
  intro p hp
  have hpg := zipg hp
  unfold itG
  rcases hk1 : p.1 with _ | _ | ⟨v, g, R⟩
  · rfl
  · rfl
  · simp only
    have hne : p.2 ≠ i := fun e => hk p.1 (by rw [← e]; exact hpg) v g R hk1
    rw [upL_ne hne]
omit [Inhabited X] in
theorem itsG_more {v : X → Value} {g : X → List It} {R : (Nat → X) → X → Prop} (hk : ks[i]? = some (.give v g R)) (hLi : L i = false) (x : X) : (g x ++ itsG ks χ L).Perm (itsG ks (updG χ i x) (upL L i)) := by
  unfold itsG
  refine flatMap_one (i := i) (x := (.give v g R, i)) (by rw [List.getElem?_zipIdx, hk]; simp) (by unfold itG; simp only; rw [hLi]; rfl) (by show (if upL L i i = true then g (updG χ i x i) else []) = g x; rw [upL_self, if_pos rfl]; unfold updG; rw [if_pos rfl]) ?_
  intro j p hj hp
  have hpz : p.2 = j := by
    rw [List.getElem?_zipIdx] at hp
    cases hkj : ks[j]? with
    | none => rw [hkj] at hp; cases hp
    | some k => rw [hkj] at hp; have := Option.some.inj hp; rw [← this]; simp
  unfold itG updG
  rcases p.1 with _ | _ | _
  · rfl
  · rfl
  · simp only
    rw [hpz, upL_ne hj, if_neg hj]
theorem PayG.owes (hK : Knows a0 n env) (hwf : wfR ops n = true) (hdk : depsOk ops Ds = true) (hp : PayG P ops ks Ds env w0 its i) (ho : ops[i]? = some o) (hLi : L i = false) (haft : ∀ e ∈ o.after, L e.on = true) (st : InvG ops ks Ds n a0 w0 its χ L a w) :
    OwesI P ops Q (fun L a w => ∃ χ, InvG ops ks Ds n a0 w0 its χ L a w) L i o a w := by
  intro K hKK
  have hk := st.knows hK hLi haft
  have h0 : opAt ops i = o := by unfold opAt; rw [ho]; rfl
  have hdo : ∀ k, hasG Ds i k = true → L k = true := by
    intro k hk2
    have hlt : i < ops.size := (Array.getElem?_eq_some_iff.1 ho).1
    have h1 := List.all_eq_true.1 hdk i (by simpa using hlt)
    rw [ho] at h1
    have h2 := List.all_eq_true.1 h1 k (by unfold hasG at hk2; simpa using hk2)
    obtain ⟨e, he, h3⟩ := Array.any_eq_true'.1 h2
    rw [Bool.or_eq_true] at h3
    rcases h3 with h3 | h3
    · rw [← Nat.eq_of_beq_eq_true h3]; exact haft e he
    · exact st.deps e.on k (haft e he) h3
  have hrel : ∀ k, hasG Ds i k = true → relG ks Ds χ k := fun k h => st.rel k (hdo k h)
  have hmem : Mem w0 w (itsG ks χ (hasG Ds i) ++ its) := st.mem.sub ((itsG_sub hdo).append (List.Sublist.refl _))
  have parts : chkM ops (vsG ks Ds χ) env i = true → Region.wanted o (yielded ops a.tmps) = true ∧ execOp a.eval o = execOp (evE (envM ops (vsG ks Ds χ) env i o)) o := by
    intro h
    unfold chkM at h
    rw [ho] at h
    simp only [Bool.and_eq_true] at h
    refine ⟨wanted_of hk ?_, hk.exec h.2⟩
    cases hg : guardE ops (envM ops (vsG ks Ds χ) env i o) o with
    | none => rw [hg] at h; cases h.1
    | some b => rw [hg] at h; exact congrArg some h.1
  have plain : ∀ {f : (Nat → X) → Value} {w' : World}, ks[i]? = some (.val f) → Mem w0 w' (itsG ks χ L ++ its) → InvG ops ks Ds n a0 w0 its χ (upL L i) (a.put o.dst (f (res (depG Ds i) χ))) w' := by
    intro f w' hkk hm
    refine st.step hwf ho haft hLi hdo (fun _ _ => rfl) (fun u _ hu => ?_) (by unfold relG; rw [hkk]; trivial) ?_
    · rw [vsG_get, hkk] at hu; exact Option.some.inj hu
    · rw [itsG_same (fun k hk2 v g R e => by rw [hkk] at hk2; have := Option.some.inj hk2; rw [← this] at e; cases e)]; exact hm
  have more : ∀ {f : X → Value} {g : X → List It} {R : (Nat → X) → X → Prop} {w' : World} (x : X), ks[i]? = some (.give f g R) → Mem w w' (g x) → R (res (depG Ds i) χ) x → InvG ops ks Ds n a0 w0 its (updG χ i x) (upL L i) (a.put o.dst (f x)) w' := by
    intro f g R w' x hkk hm hR
    have hni : (depG Ds i).contains i = false := by
      cases hc : (depG Ds i).contains i with
      | false => rfl
      | true => have := hdo i hc; rw [hLi] at this; cases this
    have hxi : updG χ i x i = x := by unfold updG; rw [if_pos rfl]
    refine st.step hwf ho haft hLi hdo (fun j hj => by unfold updG; rw [if_neg hj]) (fun u _ hu => ?_) ?_ ?_
    · rw [vsG_get, hkk] at hu
      have := Option.some.inj hu
      rw [← this]; show f x = f (updG χ i x i); rw [hxi]
    · unfold relG; rw [hkk]
      show R (res (depG Ds i) (updG χ i x)) (updG χ i x i)
      rw [res_upd hni, hxi]; exact hR
    · refine (st.mem.call hm).perm ?_
      rw [← List.append_assoc]
      exact (itsG_more hkk hLi x).append_right its
  cases hp with
  | val v hkk hc hr =>
    obtain ⟨h1, h2⟩ := parts (hc χ)
    have hrun := hr χ w hrel hmem
    rw [h0] at hrun
    rw [if_pos h1]; unfold Oper.wp; rw [h2, hrun]
    exact hKK _ w ⟨χ, plain hkk st.mem⟩
  | call f args v hkk hc he hcall =>
    obtain ⟨h1, h2⟩ := parts (hc χ)
    have hrun := he χ w
    rw [h0] at hrun
    rw [if_pos h1]; unfold Oper.wp; rw [h2, hrun]
    refine (hcall χ w hrel hmem).mono ?_
    rintro e w' ⟨rfl, hb⟩
    exact hKK _ w' ⟨χ, plain hkk (st.mem.go hb)⟩
  | skip hkk hc =>
    have hcb := hc χ
    unfold chkMN at hcb
    rw [ho] at hcb
    simp only at hcb
    have hg : guardE ops (envM ops (vsG ks Ds χ) env i o) o = some false := by
      cases hg : guardE ops (envM ops (vsG ks Ds χ) env i o) o with
      | none => rw [hg] at hcb; cases hcb
      | some b => rw [hg] at hcb; cases b <;> simp_all
    rw [if_neg (by rw [wanted_of hk hg]; decide)]
    refine hKK undef w ⟨χ, st.step hwf ho haft hLi hdo (fun _ _ => rfl) (fun u _ hu => ?_) (by unfold relG; rw [hkk]; trivial) ?_⟩
    · rw [vsG_get, hkk] at hu; exact Option.some.inj hu
    · rw [itsG_same (fun k hk2 v g R e => by rw [hkk] at hk2; have := Option.some.inj hk2; rw [← this] at e; cases e)]; exact st.mem
  | lay v g R hkk hc hr =>
    obtain ⟨h1, h2⟩ := parts (hc χ)
    obtain ⟨x, w', hrun, hm, hR⟩ := hr χ w hrel hmem
    rw [h0] at hrun
    rw [if_pos h1]; unfold Oper.wp; rw [h2, hrun]
    exact hKK _ w' ⟨_, more x hkk hm hR⟩
  | give f args v g R fv gg R0 φ hkk hc he hcall hv hg hR =>
    obtain ⟨h1, h2⟩ := parts (hc χ)
    have hrun := he χ w
    rw [h0] at hrun
    rw [if_pos h1]; unfold Oper.wp; rw [h2, hrun]
    refine (hcall χ w hrel hmem).mono ?_
    rintro e w' ⟨x, rfl, hm, hRx⟩
    rw [hv]
    rw [hg] at hm
    exact hKK _ w' ⟨_, more (φ x) hkk hm (hR χ x hrel hRx)⟩
theorem region_gives_any (hK : Knows a n env) (hM : Mem w0 w its) (ks : List (Kg X)) (Ds : List (List Nat)) (m : Nat) (hd : (wfR ops n && bindsAll ops && depsOk ops Ds && Nat.beq ks.length m && Nat.beq ops.size m) = true) (pays : AllS m fun i => PayG P ops ks Ds env w0 its i) (env' : (Nat → X) → List (Nat × Value)) (hs : ∀ χ, ((env' χ).map fun p => lookR ops (vsG ks Ds χ) env p.1) = (env' χ).map fun p => some p.2)
    (h : ∀ χ a' w', (∀ k, relG ks Ds χ k) → Knows a' n (env' χ) → Mem w0 w' (itsG ks χ (fun _ => true) ++ its) → Q .normal a' w') : wpAny P .any ops Q ops.size (Array.replicate ops.size false) a w.drew := by
  simp only [Bool.and_eq_true] at hd
  obtain ⟨⟨⟨⟨h1, h2⟩, h3⟩, h4⟩, h5⟩ := hd
  have h4' := Nat.eq_of_beq_eq_true h4
  have h5' := Nat.eq_of_beq_eq_true h5
  have hi0 : itsG ks (fun _ => default) (fun _ => false) = [] := by
    unfold itsG
    rw [List.flatMap_eq_nil_iff]
    intro p _
    unfold itG
    rcases p.1 with _ | _ | _ <;> simp
  refine region_inv_any (Inv := fun L a' w' => ∃ χ, InvG ops ks Ds n a w0 its χ L a' w') h1 h2 ⟨fun _ => default, hK.size, hK.defers, fun _ _ => rfl, fun j v hj => (by cases hj), fun j hj => (by cases hj), (by rw [hi0]; exact hM.drew), fun i o _ hi => (by cases hi), fun j k hj => (by cases hj)⟩ ?_ ?_
  · intro i o a' w' L ho hL haft ⟨χ, st⟩
    exact PayG.owes hK h1 h3 (pays.at i (by rw [← h5']; exact (Array.getElem?_eq_some_iff.1 ho).1)) ho hL haft st
  · intro L a' w' hL ⟨χ, st⟩
    have hLk : ∀ k, relG ks Ds χ k := by
      intro k
      rcases Nat.lt_or_ge k ops.size with hk | hk
      · exact st.rel k (hL k hk)
      · unfold relG; rw [List.getElem?_eq_none (by omega)]; trivial
    refine h χ a' w' hLk ⟨st.size, st.defers, fun k v hk => ?_⟩ ?_
    · have hmem := look_mem hk
      have hl : lookR ops (vsG ks Ds χ) env k = some v := by
        obtain ⟨j, hj, hje⟩ := List.getElem_of_mem hmem
        have := congrArg (fun l => l[j]?) (hs χ)
        simp only [List.getElem?_map, List.getElem?_eq_getElem hj, Option.map_some, hje] at this
        exact Option.some.inj this
      unfold lookR at hl
      split at hl
      · rename_i j hj
        have hp1 := List.find?_some hj
        have hp2 := List.mem_of_find?_eq_some hj
        have hlt : j < ops.size := by simpa using hp2
        cases hs2 : slotOf ops j with
        | none => rw [hs2] at hp1; cases hp1
        | some d =>
          rw [hs2] at hp1
          have : d = k := Nat.eq_of_beq_eq_true hp1
          subst this
          rw [eval_slot hs2]
          exact st.vals j v (hL j hlt) (by rw [hs2]; simp) hl
      · rename_i hj
        rw [← hK.val k v hl]
        show a'.tmps.getD k undef = a.tmps.getD k undef
        rw [Array.getD_eq_getD_getElem?, Array.getD_eq_getD_getElem?, st.outer k (fun j hj2 => ?_)]
        exfalso
        rw [List.find?_eq_none] at hj
        have hlt : j < ops.size := by
          rcases Nat.lt_or_ge j ops.size with h6 | h6
          · exact h6
          · unfold slotOf at hj2; rw [Array.getElem?_eq_none h6] at hj2; cases hj2
        have := hj j (by simpa using hlt)
        rw [hj2] at this
        exact this (Nat.beq_refl k)
    · have hsame : itsG ks χ L = itsG ks χ (fun _ => true) := by
        unfold itsG
        rw [List.flatMap_def, List.flatMap_def]
        congr 1
        apply List.map_congr_left
        intro p hp
        have hlt : L p.2 = true := by
          have := (List.getElem?_eq_some_iff.1 (zipg hp)).1
          exact hL p.2 (by omega)
        unfold itG
        rcases p.1 with _ | _ | _
        · rfl
        · rfl
        · simp only; rw [hlt]; rfl
      rw [← hsame]; exact st.mem
theorem region_gives {id : Nat} (hK : Knows a n env) (hM : Mem w0 w its) (ks : List (Kg X)) (Ds : List (List Nat)) (m : Nat) (hm : P.follows .mixedOrders = true) (hd : (wfR (stripR ops) n && bindsAll (stripR ops) && depsOk (stripR ops) Ds && Nat.beq ks.length m && Nat.beq (stripR ops).size m) = true) (pays : AllS m fun i => PayG P (stripR ops) ks Ds env w0 its i) (env' : (Nat → X) → List (Nat × Value)) (hs : ∀ χ, ((env' χ).map fun p => lookR (stripR ops) (vsG ks Ds χ) env p.1) = (env' χ).map fun p => some p.2)
    (h : ∀ χ a' w', (∀ k, relG ks Ds χ k) → Knows a' n (env' χ) → Mem w0 w' (itsG ks χ (fun _ => true) ++ its) → Q .normal a' w') : (Code.region id ops true).wp P Q a w := by
  have h2 := region_gives_any hK hM ks Ds m hd pays env' hs h
  rw [strip_size, strip_wpAny] at h2
  exact wp_region_any hm h2
end
end Go.Proofs.YtiigncmpbkfhmaaGreatDoor
namespace Go.Proofs.YtiigncmpbkfhmaaGreatDoor
open Go Go.RowKit
structure Xc where
  b : Nat := 0
  A : Option Addr := none
  c : Nat := 0
  G : List It := []
  v : Value := undef
  cs : List Value := []
  q : Pg := ⟨none, 0, [], none, 0, []⟩
  es : List Ex := []
  ss : List Sm := []
  ts : List Th := []
instance : Inhabited Xc := ⟨{}⟩
end Go.Proofs.YtiigncmpbkfhmaaGreatDoor
namespace Go.Proofs.YtiigncmpbkfhmaaGreatDoor
open Go Go.RowKit
theorem pgHf_sz2 (p : Pg) (h : 0 ≤ pgHf p 3000) : thsSz p.ts ≤ 3000 := by
 unfold pgHf at h
 have h1 := thsHf_sz _ _ h
 have h2 := dcsHf_le p.ds (3000 - min (3000 + 1) ((p.ds.length : Nat) : Int) - min (3000 + 1) ((p.ts.length : Nat) : Int))
 omega
theorem pgHf_len (p : Pg) (h : 0 ≤ pgHf p 3000) : p.ds.length ≤ 1000000 ∧ p.ts.length ≤ 1000000 := by
 unfold pgHf at h
 have h1 := thsHf_sz _ _ h
 have h2 := dcsHf_le p.ds (3000 - min (3000 + 1) ((p.ds.length : Nat) : Int) - min (3000 + 1) ((p.ts.length : Nat) : Int))
 omega
theorem mem_noteL {z s : List UInt8} {ks : List (List UInt8)} : z ∈ noteL s ks ↔ (z = s ∧ s ≠ []) ∨ z ∈ ks := by
 unfold noteL
 split
 ·rename_i h; subst h; simp
 ·rename_i h
  split
  ·rename_i h2
   have h3 : s ∈ ks := by simpa using h2
   constructor
   ·exact .inr
   ·rintro (⟨rfl, _⟩ | h4)
    ·exact h3
    ·exact h4
  ·simp only [List.mem_append, List.mem_singleton]
   constructor
   ·rintro (h4 | h4)
    ·exact .inr h4
    ·exact .inl ⟨h4, h⟩
   ·rintro (⟨h4, _⟩ | h4)
    ·exact .inr h4
    ·exact .inl h4
theorem andW_snd {σ : Type} {r : Bool × σ} {k : σ → Bool × σ} (h : r.1 = true) : andW r k = k r.2 := by unfold andW; rw [if_pos h]
theorem notes_true : (∀ (l : List Ex) (d : Nat) (s : List (List UInt8)), (exsWk noteE l d s).1 = true) ∧ ∀ (l : List Sm) (d : Nat) (s : List (List UInt8)), (smsWk noteE noteS l d s).1 = true := true_of (fun _ _ _ => rfl) (fun _ _ _ => rfl)
theorem ex_wk_note (z : List UInt8) (e : Ex) : ∀ (d : Nat) (ks : List (List UInt8)), (e.wk noteE d ks).1 = true ∧ (z ∈ (e.wk noteE d ks).2 ↔ z ∈ e.rg ∨ z ∈ ks) := by
 induction e using Ex.rec_on with
 | h e ih =>
  intro d ks
  rw [ex_wk, andW_snd rfl]
  refine ⟨notes_true.1 _ _ _, ?_⟩
  have key : ∀ (l : List Ex) (d : Nat) (ks : List (List UInt8)), (∀ x ∈ l, ∀ (d : Nat) (ks : List (List UInt8)), (x.wk noteE d ks).1 = true ∧ (z ∈ (x.wk noteE d ks).2 ↔ z ∈ x.rg ∨ z ∈ ks)) → (z ∈ (exsWk noteE l d ks).2 ↔ z ∈ exsRg l ∨ z ∈ ks) := by
   intro l
   induction l with
   | nil => intro d ks _; rw [exsWk, exsRg]; simp
   | cons x r ih2 =>
    intro d ks h
    have h1 := h x List.mem_cons_self d ks
    rw [exsWk, andW_snd h1.1, ih2 _ _ fun y hy => h y (List.mem_cons_of_mem _ hy), h1.2, exsRg, List.mem_append]
    constructor
    ·rintro (h | h | h)
     ·exact .inl (.inr h)
     ·exact .inl (.inl h)
     ·exact .inr h
    ·rintro ((h | h) | h)
     ·exact .inr (.inl h)
     ·exact .inl h
     ·exact .inr (.inr h)
  rw [key e.ks _ _ ih, rg_eq, List.mem_append]
  unfold noteE
  show z ∈ exsRg e.ks ∨ z ∈ (if e.op = 2 then noteL e.nm ks else ks) ↔ _
  by_cases ho : e.op = 2
  ·rw [if_pos ho, mem_noteL]
   by_cases hn : e.nm = []
   ·rw [if_neg (fun h => h.2 hn)]; simp [hn]
   ·rw [if_pos ⟨ho, hn⟩, List.mem_singleton]
    constructor
    ·rintro (h | h | h)
     ·exact .inl (.inr h)
     ·exact .inl (.inl h.1)
     ·exact .inr h
    ·rintro ((h | h) | h)
     ·exact .inr (.inl ⟨h, hn⟩)
     ·exact .inl h
     ·exact .inr (.inr h)
  ·rw [if_neg ho, if_neg (fun h => ho h.1)]; simp
theorem exs_wk_note (z : List UInt8) (l : List Ex) : ∀ (d : Nat) (ks : List (List UInt8)), (z ∈ (exsWk noteE l d ks).2 ↔ z ∈ exsRg l ∨ z ∈ ks) := by
 induction l with
 | nil => intro d ks; rw [exsWk, exsRg]; simp
 | cons x r ih2 =>
  intro d ks
  have h1 := ex_wk_note z x d ks
  rw [exsWk, andW_snd h1.1, ih2, h1.2, exsRg, List.mem_append]
  constructor
  ·rintro (h | h | h)
   ·exact .inl (.inr h)
   ·exact .inl (.inl h)
   ·exact .inr h
  ·rintro ((h | h) | h)
   ·exact .inr (.inl h)
   ·exact .inl h
   ·exact .inr (.inr h)
theorem sms_wk_note (z : List UInt8) (l : List Sm) : ∀ (d : Nat) (ks : List (List UInt8)), (z ∈ (smsWk noteE noteS l d ks).2 ↔ z ∈ smsRg l ∨ z ∈ ks) := by
 induction l using sms_rec with
 | h l ih =>
  induction l with
  | nil => intro d ks; rw [smsWk, smsRg]; simp
  | cons y r ih2 =>
   intro d ks
   obtain ⟨h2, h3⟩ := ih y List.mem_cons_self
   have h1 : (y.wk noteE noteS d ks).1 = true ∧ (z ∈ (y.wk noteE noteS d ks).2 ↔ z ∈ y.rg ∨ z ∈ ks) := by
    rw [sm_wk, andW_snd rfl]
    unfold walkW
    have e1 : (exsWk noteE y.es (d + 1) (noteS y d ks).2).1 = true := notes_true.1 _ _ _
    rw [andW_snd e1, andW_snd (notes_true.2 _ _ _)]
    refine ⟨notes_true.2 _ _ _, ?_⟩
    rw [h3, h2, exs_wk_note, sm_rg]
    unfold noteS
    show z ∈ smsRg y.el ∨ z ∈ smsRg y.th ∨ z ∈ exsRg y.es ∨ z ∈ noteL y.nm ks ↔ _
    rw [mem_noteL]
    simp only [List.mem_append]
    by_cases hn : y.nm = []
    ·rw [if_neg (fun h => h hn)]
     simp only [hn, List.not_mem_nil]
     constructor
     ·rintro (h | h | h | h | h)
      ·exact .inl (.inr h)
      ·exact .inl (.inl (.inr h))
      ·exact .inl (.inl (.inl (.inr h)))
      ·exact absurd rfl h.2
      ·exact .inr h
     ·rintro ((((h | h) | h) | h) | h)
      ·cases h
      ·exact .inr (.inr (.inl h))
      ·exact .inr (.inl h)
      ·exact .inl h
      ·exact .inr (.inr (.inr (.inr h)))
    ·rw [if_pos hn, List.mem_singleton]
     constructor
     ·rintro (h | h | h | h | h)
      ·exact .inl (.inr h)
      ·exact .inl (.inl (.inr h))
      ·exact .inl (.inl (.inl (.inr h)))
      ·exact .inl (.inl (.inl (.inl h.1)))
      ·exact .inr h
     ·rintro ((((h | h) | h) | h) | h)
      ·exact .inr (.inr (.inr (.inl ⟨h, hn⟩)))
      ·exact .inr (.inr (.inl h))
      ·exact .inr (.inl h)
      ·exact .inl h
      ·exact .inr (.inr (.inr (.inr h)))
   rw [smsWk, andW_snd h1.1, ih2 (fun s hs => ih s (List.mem_cons_of_mem _ hs)), h1.2, smsRg, List.mem_append]
   constructor
   ·rintro (h | h | h)
    ·exact .inl (.inr h)
    ·exact .inl (.inl h)
    ·exact .inr h
   ·rintro ((h | h) | h)
    ·exact .inr (.inl h)
    ·exact .inl h
    ·exact .inr (.inr h)
theorem regs_same (l : List Sm) (hs : smsSh l = true) : (regsL l).mergeSort Go.leB = setL (smsRg l) := by
 refine (rise_sorted (setL_rise _) ?_ fun z => ?_).symm
 ·unfold regsL
  rw [walkW_s]
  refine sms_inv (I := fun ks : List (List UInt8) => ks.Nodup) (fun e d ks _ h => ?_) (fun e d ks _ h => noteL_nodup h) l 1 [] hs .nil
  show (if e.op = 2 then noteL e.nm ks else ks).Nodup
  split
  ·exact noteL_nodup h
  ·exact h
 ·rw [setL_mem]
  unfold regsL
  rw [walkW_s, sms_wk_note]
  simp
theorem ast_RegsT {A : Option Addr} {c : Nat} (l : List Sm) (w0 : World) (hl : SmsAt w0 A l) (hsz : smsSz l ≤ 100000) (hsh : smsSh l = true) : Calls Tryz.prog 14 #[.slice A l.length c] w0 (GivesT w0 (setL (smsRg l))) := by
 refine (ast_Regs l w0 hl hsz hsh).mono ?_
 rintro e w' ⟨v, rfl, hM, -⟩
 rw [regs_same l hsh] at hM
 obtain ⟨A2, c2, rfl⟩ := own_is (f := Str) (l := setL (smsRg l)) (hM.own 0 rfl)
 exact ⟨(A2, c2), rfl, hM, trivial⟩
theorem cntL_len (l : List Sm) : (cntL l).length ≤ 1000000 := by unfold cntL; simp
theorem kL_cnt (l : List Sm) : kL (fun j => smsCt j l) = (cntL l).map fun x : Int => Value.int .i64 x := by
 unfold kL cntL
 rw [List.map_map]; rfl
set_option maxRecDepth 100000 in
set_option maxHeartbeats 4000000 in
theorem calls_yes (p q : Pg) (e g : Ex) (w0 : World) (hTab : TabOk w0) (hp : PgAt w0 p) (hq : PgAt w0 q) (he : ExAt w0 e) (hg : ExAt w0 g) : Calls Tryz.prog 3 #[vG p, vG q, vE e, vE g] w0 (Ret w0 (.bool true)) := by
 refine calls_K (args := [vG p, vG q, vE e, vE g]) (n := 90) (env := [(0, vG p), (1, vG q), (2, vE e), (3, vE g)]) Tryz.func3 rfl rfl rfl ⟨rfl, rfl, rfl, rfl, trivial⟩ fun a w hK hM => ?_
 refine wp_seq ?_
 refine rg5 (by kernel_rfl) ?_
 refine sA hK hM 4 25 [.slice p.A1 p.ds.length p.c1, .slice p.A2 p.ts.length p.c2] (fun b => pA b 0) (by kernel_rfl) (by kernel_rfl) fun b1 a w hK hM => ?_
 refine sA hK hM 5 25 [.slice q.A1 q.ds.length q.c1, .slice q.A2 q.ts.length q.c2] (fun b => pA b 0) (by kernel_rfl) (by kernel_rfl) fun b2 a w hK hM => ?_
 refine sA hK hM 6 28 (cE e) (fun b => pA b 0) (by kernel_rfl) (by kernel_rfl) fun b3 a w hK hM => ?_
 refine sA hK hM 7 28 (cE g) (fun b => pA b 0) (by kernel_rfl) (by kernel_rfl) fun b4 a w hK hM => ?_
 refine sP hK 8 (.bool false) (by kernel_rfl) (by kernel_rfl) fun a hK => ?_
 refine rps ?_
 refine wp_seq ?_
 refine wp_seq ?_
 refine rg2 (by kernel_rfl) ?_
 refine sR hK hM 10 #[] (.bool true) (by kernel_rfl) (rC en_cantileverlaw03_lives rfl rfl (by kernel_rfl)) (lives_yes _ (hTab.on hM.below)) fun a w hK hM => ?_
 refine sP hK 11 (.bool false) (by kernel_rfl) (by kernel_rfl) fun a hK => ?_
 refine rps ?_
 refine wp_cond_false (hK.get rfl) ?_
 refine wp_skip ?_
 refine wp_seq ?_
 refine wp_seq ?_
 refine rg18 (by kernel_rfl) ?_
 refine sL hK 12 (vG p) (by kernel_rfl) rfl rfl ((hM.row 3 rfl).cells 0 2) (by kernel_rfl) fun a hK => ?_
 rcases Bool.eq_false_or_eq_true (decide ((0 : Int) ≤ pgHf p 3000)) with h5 | h5
 ·refine sR hK hM 13 #[vG p, .int .i64 3000] (.bool true) (by kernel_rfl) (rC en_cantileverkit_LightProgram rfl rfl (by kernel_rfl)) (ret_eq (kit_LightProgram p 3000 _ (hp.on hM.below) (by decide) (by decide)) (congrArg Value.bool h5)) fun a w hK hM => ?_
  refine sP hK 14 (.bool false) (by kernel_rfl) (by kernel_rfl) fun a hK => ?_
  refine sM hK 15 14 (by kernel_rfl) (.inl rfl) rfl fun a hK => ?_
  refine sL hK 16 (vG q) (by kernel_rfl) rfl rfl ((hM.row 2 rfl).cells 0 2) (by kernel_rfl) fun a hK => ?_
  rcases Bool.eq_false_or_eq_true (decide ((0 : Int) ≤ pgHf q 3000)) with h6 | h6
  ·refine sR hK hM 17 #[vG q, .int .i64 3000] (.bool true) (by kernel_rfl) (rC en_cantileverkit_LightProgram rfl rfl (by kernel_rfl)) (ret_eq (kit_LightProgram q 3000 _ (hq.on hM.below) (by decide) (by decide)) (congrArg Value.bool h6)) fun a w hK hM => ?_
   refine sP hK 18 (.bool false) (by kernel_rfl) (by kernel_rfl) fun a hK => ?_
   refine sP hK 19 (.bool false) (by kernel_rfl) (by kernel_rfl) fun a hK => ?_
   refine sM hK 20 19 (by kernel_rfl) (.inl rfl) rfl fun a hK => ?_
   refine sL hK 21 (vE e) (by kernel_rfl) rfl rfl ((hM.row 1 rfl).cells 0 4) (by kernel_rfl) fun a hK => ?_
   rcases Bool.eq_false_or_eq_true (decide ((0 : Int) ≤ e.hf 3000)) with h7 | h7
   ·refine sR hK hM 22 #[vE e, .int .i64 3000] (.bool true) (by kernel_rfl) (rC en_cantileverkit_Light rfl rfl (by kernel_rfl)) (ret_eq (kit_Light e 3000 _ (he.on hM.below) (by decide) (by decide)) (congrArg Value.bool h7)) fun a w hK hM => ?_
    refine sP hK 23 (.bool false) (by kernel_rfl) (by kernel_rfl) fun a hK => ?_
    refine sP hK 24 (.bool false) (by kernel_rfl) (by kernel_rfl) fun a hK => ?_
    refine sM hK 25 24 (by kernel_rfl) (.inl rfl) rfl fun a hK => ?_
    refine sL hK 26 (vE g) (by kernel_rfl) rfl rfl ((hM.row 0 rfl).cells 0 4) (by kernel_rfl) fun a hK => ?_
    rcases Bool.eq_false_or_eq_true (decide ((0 : Int) ≤ g.hf 3000)) with h8 | h8
    ·refine sR hK hM 27 #[vE g, .int .i64 3000] (.bool true) (by kernel_rfl) (rC en_cantileverkit_Light rfl rfl (by kernel_rfl)) (ret_eq (kit_Light g 3000 _ (hg.on hM.below) (by decide) (by decide)) (congrArg Value.bool h8)) fun a w hK hM => ?_
     refine sP hK 28 (.bool false) (by kernel_rfl) (by kernel_rfl) fun a hK => ?_
     refine sP hK 29 (.bool false) (by kernel_rfl) (by kernel_rfl) fun a hK => ?_
     refine rps ?_
     refine wp_cond_false (hK.get rfl) ?_
     refine wp_skip ?_
     refine wp_seq ?_
     refine wp_seq ?_
     have hlp : 0 ≤ pgHf p 3000 := of_decide_eq_true h5
     have hsh := pgHf_sh p hlp
     have hsz : thsSz p.ts ≤ 3000 := pgHf_sz2 p hlp
     have hsh2 := pg_sh hsh
     have hsz2 : ∀ t ∈ p.ts, smsSz t.l ≤ 1000000 := fun t ht => (by obtain ⟨i, hi, rfl⟩ := List.getElem_of_mem ht; have h8 := thsSz_mem (List.getElem?_eq_getElem hi); omega)
     have hln2 := pgHf_len p hlp
     refine region_gives (X := Xc) hK hM [.val (fun ρ => (vG p)), .val (fun ρ => (vG q)), .val (fun ρ => (.bool (pgSame p q))), .val (fun ρ => (vG p)), .val (fun ρ => (vG q)), .val (fun ρ => (.bool (pgSame p q))), .val (fun ρ => (.bool false)), .val (fun ρ => (.bool false)), .val (fun ρ => (vE e)), .val (fun ρ => (vE g)), .val (fun ρ => (.bool (e.same g))), .val (fun ρ => (vE e)), .val (fun ρ => (vE g)), .val (fun ρ => (.bool (e.same g))), .val (fun ρ => (.bool false)), .val (fun ρ => (.bool false)), .val (fun ρ => (.bool false)), .val (fun ρ => (vG p)), .give (fun x => .agg #[.slice x.q.A1 x.q.ds.length x.q.c1, .slice x.q.A2 x.q.ts.length x.q.c2]) (fun x => x.G) (fun ρ x => (PgRows x.G x.q) ∧ (pgSame x.q p = true)), .val (fun ρ => (vG p)), .val (fun ρ => (.bool true)), .val (fun ρ => (.bool false)), .val (fun ρ => (.bool false))] [[], [], [], [], [], [], [], [], [], [], [], [], [], [], [], [], [], [], [], [], [18], [18], [18]] 23 (by kernel_rfl) (by kernel_rfl) ⟨⟨⟨⟨⟨⟨⟨⟨⟨⟨⟨⟨⟨⟨⟨⟨⟨⟨⟨⟨⟨⟨⟨trivial, ?_⟩, ?_⟩, ?_⟩, ?_⟩, ?_⟩, ?_⟩, ?_⟩, ?_⟩, ?_⟩, ?_⟩, ?_⟩, ?_⟩, ?_⟩, ?_⟩, ?_⟩, ?_⟩, ?_⟩, ?_⟩, ?_⟩, ?_⟩, ?_⟩, ?_⟩, ?_⟩ (fun χ => [(52, .bool false), (29, .bool false), (11, .bool false), (8, .bool false), (7, pA b4 0), (6, pA b3 0), (5, pA b2 0), (4, pA b1 0), (0, vG p), (1, vG q), (2, vE e), (3, vE g)]) (fun χ => by kernel_rfl) ?_
     ·exact .val _ rfl (fun χ => by kernel_rfl) (by intro χ w hr hM; replace hM := hM.to ([.row b4 28 (cE g), .row b3 28 (cE e), .row b2 25 [.slice q.A1 q.ds.length q.c1, .slice q.A2 q.ts.length q.c2], .row b1 25 [.slice p.A1 p.ds.length p.c1, .slice p.A2 p.ts.length p.c2]]) (by kernel_rfl); exact rL rfl rfl ((hM.row 3 rfl).cells 0 2) (by kernel_rfl))
     ·exact .val _ rfl (fun χ => by kernel_rfl) (by intro χ w hr hM; replace hM := hM.to ([.row b4 28 (cE g), .row b3 28 (cE e), .row b2 25 [.slice q.A1 q.ds.length q.c1, .slice q.A2 q.ts.length q.c2], .row b1 25 [.slice p.A1 p.ds.length p.c1, .slice p.A2 p.ts.length p.c2]]) (by kernel_rfl); exact rL rfl rfl ((hM.row 2 rfl).cells 0 2) (by kernel_rfl))
     ·exact .call _ (fun χ => #[vG p, vG q]) _ rfl (fun χ => by kernel_rfl) (fun χ w => (rC en_ast_Same rfl rfl (by kernel_rfl))) (by intro χ w hr hM; replace hM := hM.to ([.row b4 28 (cE g), .row b3 28 (cE e), .row b2 25 [.slice q.A1 q.ds.length q.c1, .slice q.A2 q.ts.length q.c2], .row b1 25 [.slice p.A1 p.ds.length p.c1, .slice p.A2 p.ts.length p.c2]]) (by kernel_rfl); exact ast_Same p q _ (hp.on hM.below) (hq.on hM.below))
     ·exact .val _ rfl (fun χ => by kernel_rfl) (by intro χ w hr hM; replace hM := hM.to ([.row b4 28 (cE g), .row b3 28 (cE e), .row b2 25 [.slice q.A1 q.ds.length q.c1, .slice q.A2 q.ts.length q.c2], .row b1 25 [.slice p.A1 p.ds.length p.c1, .slice p.A2 p.ts.length p.c2]]) (by kernel_rfl); exact rL rfl rfl ((hM.row 3 rfl).cells 0 2) (by kernel_rfl))
     ·exact .val _ rfl (fun χ => by kernel_rfl) (by intro χ w hr hM; replace hM := hM.to ([.row b4 28 (cE g), .row b3 28 (cE e), .row b2 25 [.slice q.A1 q.ds.length q.c1, .slice q.A2 q.ts.length q.c2], .row b1 25 [.slice p.A1 p.ds.length p.c1, .slice p.A2 p.ts.length p.c2]]) (by kernel_rfl); exact rL rfl rfl ((hM.row 2 rfl).cells 0 2) (by kernel_rfl))
     ·exact .call _ (fun χ => #[vG p, vG q]) _ rfl (fun χ => by kernel_rfl) (fun χ w => (rC en_cantileverref03_Same rfl rfl (by kernel_rfl))) (by intro χ w hr hM; replace hM := hM.to ([.row b4 28 (cE g), .row b3 28 (cE e), .row b2 25 [.slice q.A1 q.ds.length q.c1, .slice q.A2 q.ts.length q.c2], .row b1 25 [.slice p.A1 p.ds.length p.c1, .slice p.A2 p.ts.length p.c2]]) (by kernel_rfl); exact ref_Same p q _ (hp.on hM.below) (hq.on hM.below))
     ·exact .val _ rfl (fun χ => by kernel_rfl) (fun χ w _ _ => (oB (b := ((pgSame p q) != (pgSame p q))) (run_neB rfl rfl rfl) (bne_self_eq_false _)))
     ·exact .val _ rfl (fun χ => by kernel_rfl) (fun χ w _ _ => (by kernel_rfl))
     ·exact .val _ rfl (fun χ => by kernel_rfl) (by intro χ w hr hM; replace hM := hM.to ([.row b4 28 (cE g), .row b3 28 (cE e), .row b2 25 [.slice q.A1 q.ds.length q.c1, .slice q.A2 q.ts.length q.c2], .row b1 25 [.slice p.A1 p.ds.length p.c1, .slice p.A2 p.ts.length p.c2]]) (by kernel_rfl); exact rL rfl rfl ((hM.row 1 rfl).cells 0 4) (by kernel_rfl))
     ·exact .val _ rfl (fun χ => by kernel_rfl) (by intro χ w hr hM; replace hM := hM.to ([.row b4 28 (cE g), .row b3 28 (cE e), .row b2 25 [.slice q.A1 q.ds.length q.c1, .slice q.A2 q.ts.length q.c2], .row b1 25 [.slice p.A1 p.ds.length p.c1, .slice p.A2 p.ts.length p.c2]]) (by kernel_rfl); exact rL rfl rfl ((hM.row 0 rfl).cells 0 4) (by kernel_rfl))
     ·exact .call _ (fun χ => #[vE e, vE g]) _ rfl (fun χ => by kernel_rfl) (fun χ w => (rC en_ast_SameExpr rfl rfl (by kernel_rfl))) (by intro χ w hr hM; replace hM := hM.to ([.row b4 28 (cE g), .row b3 28 (cE e), .row b2 25 [.slice q.A1 q.ds.length q.c1, .slice q.A2 q.ts.length q.c2], .row b1 25 [.slice p.A1 p.ds.length p.c1, .slice p.A2 p.ts.length p.c2]]) (by kernel_rfl); exact ast_SameExpr e g _ (he.on hM.below) (hg.on hM.below))
     ·exact .val _ rfl (fun χ => by kernel_rfl) (by intro χ w hr hM; replace hM := hM.to ([.row b4 28 (cE g), .row b3 28 (cE e), .row b2 25 [.slice q.A1 q.ds.length q.c1, .slice q.A2 q.ts.length q.c2], .row b1 25 [.slice p.A1 p.ds.length p.c1, .slice p.A2 p.ts.length p.c2]]) (by kernel_rfl); exact rL rfl rfl ((hM.row 1 rfl).cells 0 4) (by kernel_rfl))
     ·exact .val _ rfl (fun χ => by kernel_rfl) (by intro χ w hr hM; replace hM := hM.to ([.row b4 28 (cE g), .row b3 28 (cE e), .row b2 25 [.slice q.A1 q.ds.length q.c1, .slice q.A2 q.ts.length q.c2], .row b1 25 [.slice p.A1 p.ds.length p.c1, .slice p.A2 p.ts.length p.c2]]) (by kernel_rfl); exact rL rfl rfl ((hM.row 0 rfl).cells 0 4) (by kernel_rfl))
     ·exact .call _ (fun χ => #[vE e, vE g]) _ rfl (fun χ => by kernel_rfl) (fun χ w => (rC en_cantileverref03_SameExpr rfl rfl (by kernel_rfl))) (by intro χ w hr hM; replace hM := hM.to ([.row b4 28 (cE g), .row b3 28 (cE e), .row b2 25 [.slice q.A1 q.ds.length q.c1, .slice q.A2 q.ts.length q.c2], .row b1 25 [.slice p.A1 p.ds.length p.c1, .slice p.A2 p.ts.length p.c2]]) (by kernel_rfl); exact ref_SameExpr e g _ (he.on hM.below) (hg.on hM.below))
     ·exact .val _ rfl (fun χ => by kernel_rfl) (fun χ w _ _ => (oB (b := ((e.same g) != (e.same g))) (run_neB rfl rfl rfl) (bne_self_eq_false _)))
     ·exact .val _ rfl (fun χ => by kernel_rfl) (fun χ w _ _ => (by kernel_rfl))
     ·exact .val _ rfl (fun χ => by kernel_rfl) (fun χ w _ _ => (by kernel_rfl))
     ·exact .val _ rfl (fun χ => by kernel_rfl) (by intro χ w hr hM; replace hM := hM.to ([.row b4 28 (cE g), .row b3 28 (cE e), .row b2 25 [.slice q.A1 q.ds.length q.c1, .slice q.A2 q.ts.length q.c2], .row b1 25 [.slice p.A1 p.ds.length p.c1, .slice p.A2 p.ts.length p.c2]]) (by kernel_rfl); exact rL rfl rfl ((hM.row 3 rfl).cells 0 2) (by kernel_rfl))
     ·exact .give (τ := Pg × List It) _ (fun χ => #[vG p]) _ _ _ (fun χ x => .agg #[.slice x.1.A1 x.1.ds.length x.1.c1, .slice x.1.A2 x.1.ts.length x.1.c2]) (fun χ x => x.2) (fun χ x => PgRows x.2 x.1 ∧ pgSame x.1 p = true ∧ x.1.ds = p.ds) (fun x => { q := x.1, G := x.2 }) rfl (fun χ => by kernel_rfl) (fun χ w => (rC en_ast_Copy rfl rfl (by kernel_rfl))) (by intro χ w hr hM; replace hM := hM.to ([.row b4 28 (cE g), .row b3 28 (cE e), .row b2 25 [.slice q.A1 q.ds.length q.c1, .slice q.A2 q.ts.length q.c2], .row b1 25 [.slice p.A1 p.ds.length p.c1, .slice p.A2 p.ts.length p.c2]]) (by kernel_rfl); exact ast_Copy p _ (hp.on hM.below) hsh2 hsz2 hln2) (fun χ x => rfl) (fun χ x => rfl) (fun χ x hr h => ⟨h.1, h.2.1⟩)
     ·exact .val _ rfl (fun χ => by kernel_rfl) (by intro χ w hr hM; replace hM := hM.to ([.row b4 28 (cE g), .row b3 28 (cE e), .row b2 25 [.slice q.A1 q.ds.length q.c1, .slice q.A2 q.ts.length q.c2], .row b1 25 [.slice p.A1 p.ds.length p.c1, .slice p.A2 p.ts.length p.c2]]) (by kernel_rfl); exact rL rfl rfl ((hM.row 3 rfl).cells 0 2) (by kernel_rfl))
     ·exact .call _ (fun χ => #[.agg #[.slice (χ 18).q.A1 (χ 18).q.ds.length (χ 18).q.c1, .slice (χ 18).q.A2 (χ 18).q.ts.length (χ 18).q.c2], vG p]) _ rfl (fun χ => by kernel_rfl) (fun χ w => (rC en_cantileverkit_Program rfl rfl (by kernel_rfl))) (by intro χ w hr hM; obtain ⟨hrC, hsC⟩ : (PgRows (χ 18).G (χ 18).q) ∧ (pgSame (χ 18).q p = true) := hr 18 rfl; replace hM := (hM.to ((((χ 18).G ++ []) ++ [.row b4 28 (cE g), .row b3 28 (cE e), .row b2 25 [.slice q.A1 q.ds.length q.c1, .slice q.A2 q.ts.length q.c2], .row b1 25 [.slice p.A1 p.ds.length p.c1, .slice p.A2 p.ts.length p.c2]])) (by kernel_rfl)).order [(χ 18).G, [.row b4 28 (cE g)], [.row b3 28 (cE e)], [.row b2 25 [.slice q.A1 q.ds.length q.c1, .slice q.A2 q.ts.length q.c2]], [.row b1 25 [.slice p.A1 p.ds.length p.c1, .slice p.A2 p.ts.length p.c2]]] [1, 2, 3, 4, 0] 5 rfl (by simp) (by decide) ((.row b4 28 (cE g) :: .row b3 28 (cE e) :: .row b2 25 [.slice q.A1 q.ds.length q.c1, .slice q.A2 q.ts.length q.c2] :: .row b1 25 [.slice p.A1 p.ds.length p.c1, .slice p.A2 p.ts.length p.c2] :: (χ 18).G)) (by simp); exact ret_eq (kit_Program (χ 18).q p _ ((hrC.mono (fun it hi => by simp [hi])).at hM) (hp.on hM.below)) (congrArg Value.bool hsC))
     ·exact .val _ rfl (fun χ => by kernel_rfl) (fun χ w _ _ => (by kernel_rfl))
     ·exact .val _ rfl (fun χ => by kernel_rfl) (fun χ w _ _ => (by kernel_rfl))
     intro χ a w hrel hK hM
     replace hK : Knows a 90 [(52, .bool false), (29, .bool false), (11, .bool false), (8, .bool false), (7, pA b4 0), (6, pA b3 0), (5, pA b2 0), (4, pA b1 0), (0, vG p), (1, vG q), (2, vE e), (3, vE g)] := hK
     obtain ⟨hrC, hsC⟩ : (PgRows (χ 18).G (χ 18).q) ∧ (pgSame (χ 18).q p = true) := hrel 18
     replace hM := hM.to ((((χ 18).G ++ []) ++ [.row b4 28 (cE g), .row b3 28 (cE e), .row b2 25 [.slice q.A1 q.ds.length q.c1, .slice q.A2 q.ts.length q.c2], .row b1 25 [.slice p.A1 p.ds.length p.c1, .slice p.A2 p.ts.length p.c2]])) (by kernel_rfl)
     generalize χ 18 = x9_18 at hK hM hrC hsC
     clear hrel
     replace hM := (hM.to (((x9_18.G ++ []) ++ [.row b4 28 (cE g), .row b3 28 (cE e), .row b2 25 [.slice q.A1 q.ds.length q.c1, .slice q.A2 q.ts.length q.c2], .row b1 25 [.slice p.A1 p.ds.length p.c1, .slice p.A2 p.ts.length p.c2]])) (by kernel_rfl)).order [x9_18.G, [.row b4 28 (cE g)], [.row b3 28 (cE e)], [.row b2 25 [.slice q.A1 q.ds.length q.c1, .slice q.A2 q.ts.length q.c2]], [.row b1 25 [.slice p.A1 p.ds.length p.c1, .slice p.A2 p.ts.length p.c2]]] [1, 2, 3, 4, 0] 5 rfl (by simp) (by decide) ((.row b4 28 (cE g) :: .row b3 28 (cE e) :: .row b2 25 [.slice q.A1 q.ds.length q.c1, .slice q.A2 q.ts.length q.c2] :: .row b1 25 [.slice p.A1 p.ds.length p.c1, .slice p.A2 p.ts.length p.c2] :: x9_18.G)) (by simp)
     refine wp_cond_false (hK.get rfl) ?_
     refine wp_skip ?_
     refine wp_seq ?_
     refine wp_seq ?_
     have hpl := hp.len
     refine rg1 (by kernel_rfl) ?_
     refine sP hK 9 (.int .i64 0) (by kernel_rfl) (by kernel_rfl) fun a hK => ?_
     refine rps ?_
     refine wp_block ?_
     refine wLX (fun x : Nat => [(52, .bool false), (29, .bool false), (11, .bool false), (8, .bool false), (7, pA b4 0), (6, pA b3 0), (5, pA b2 0), (4, pA b1 0), (0, vG p), (1, vG q), (2, vE e), (3, vE g), (9, vN x)]) (fun x : Nat => (.row b4 28 (cE g) :: .row b3 28 (cE e) :: .row b2 25 [.slice q.A1 q.ds.length q.c1, .slice q.A2 q.ts.length q.c2] :: .row b1 25 [.slice p.A1 p.ds.length p.c1, .slice p.A2 p.ts.length p.c2] :: x9_18.G)) (fun x : Nat => x ≤ p.ts.length) (fun x : Nat => p.ts.length - x) 0 (hK.sub ⟨rfl, rfl, rfl, rfl, rfl, rfl, rfl, rfl, rfl, rfl, rfl, rfl, rfl, trivial⟩) hM (Nat.zero_le _) ?_
     rintro i a w hK hM hR
     replace hK : Knows a 90 [(52, .bool false), (29, .bool false), (11, .bool false), (8, .bool false), (7, pA b4 0), (6, pA b3 0), (5, pA b2 0), (4, pA b1 0), (0, vG p), (1, vG q), (2, vE e), (3, vE g), (9, vN i)] := hK
     replace hM : Mem w0 w (.row b4 28 (cE g) :: .row b3 28 (cE e) :: .row b2 25 [.slice q.A1 q.ds.length q.c1, .slice q.A2 q.ts.length q.c2] :: .row b1 25 [.slice p.A1 p.ds.length p.c1, .slice p.A2 p.ts.length p.c2] :: x9_18.G) := hM
     replace hR : i ≤ p.ts.length := hR
     refine wp_seq ?_
     refine wp_seq ?_
     refine rg5 (by kernel_rfl) ?_
     refine sM hK 53 9 (by kernel_rfl) (.inl rfl) rfl fun a hK => ?_
     refine sP hK 54 (pA b1 1) (by kernel_rfl) (by kernel_rfl) fun a hK => ?_
     refine sL hK 55 (.slice p.A2 p.ts.length p.c2) (by kernel_rfl) rfl rfl ((hM.row 3 rfl).cells 1 1) (by kernel_rfl) fun a hK => ?_
     refine sP hK 56 (.int .i64 ((p.ts.length : Nat) : Int)) (by kernel_rfl) (by kernel_rfl) fun a hK => ?_
     by_cases h10 : (((i : Nat) : Int) : Int) < ((p.ts.length : Nat) : Int)
     ·refine sP hK 57 (.bool true) (by kernel_rfl) (oB (b := (decide ((((i : Nat) : Int) : Int) < ((p.ts.length : Nat) : Int)))) (by kernel_rfl) (decide_eq_true h10)) fun a hK => ?_
      refine rps ?_
      refine wp_cond_true (hK.get rfl) ?_
      refine wp_skip ?_
      refine wp_seq ?_
      refine wp_block ?_
      refine wp_seq ?_
      obtain ⟨t11, ht11⟩ : ∃ t, p.ts[(i : Nat)]? = some t := ⟨_, List.getElem?_eq_getElem (by omega)⟩
      obtain ⟨⟨at11, At11, ct11⟩, et11⟩ := hp.threads _ _ ht11; have nt11 := et11.2
      refine region_gives (X := Xc) hK hM [.val (fun ρ => (pA b1 1)), .val (fun ρ => (.slice p.A2 p.ts.length p.c2)), .val (fun ρ => (vN i)), .val (fun ρ => (.pointer (some (at11.add (i * 1))))), .val (fun ρ => (.slice t11.A t11.l.length t11.c)), .give (fun x => .slice x.A ((setL (smsRg t11.l))).length x.c) (fun x => [.own 9 1 (.slice x.A ((setL (smsRg t11.l))).length x.c) ((setL (smsRg t11.l))).length (((setL (smsRg t11.l))).map Str)]) (fun ρ x => True), .val (fun ρ => (pA b1 1)), .val (fun ρ => (.slice p.A2 p.ts.length p.c2)), .val (fun ρ => (vN i)), .val (fun ρ => (.pointer (some (at11.add (i * 1))))), .val (fun ρ => (.slice t11.A t11.l.length t11.c)), .give (fun x => .slice x.A ((setL (smsRg t11.l))).length x.c) (fun x => [.own 9 1 (.slice x.A ((setL (smsRg t11.l))).length x.c) ((setL (smsRg t11.l))).length (((setL (smsRg t11.l))).map Str)]) (fun ρ x => True), .val (fun ρ => (.bool true)), .val (fun ρ => (.bool false)), .val (fun ρ => (.bool false)), .val (fun ρ => (pA b1 1)), .val (fun ρ => (.slice p.A2 p.ts.length p.c2)), .val (fun ρ => (vN i)), .val (fun ρ => (.pointer (some (at11.add (i * 1))))), .val (fun ρ => (.slice t11.A t11.l.length t11.c)), .give (fun x => .slice (some ⟨x.b, 0, none⟩) 11 11) (fun x => [.row x.b 3 (kL fun j => smsCt j t11.l)]) (fun ρ x => True), .val (fun ρ => (pA b1 1)), .val (fun ρ => (.slice p.A2 p.ts.length p.c2)), .val (fun ρ => (vN i)), .val (fun ρ => (.pointer (some (at11.add (i * 1))))), .val (fun ρ => (.slice t11.A t11.l.length t11.c)), .give (fun x => .slice x.A ((cntL t11.l)).length x.c) (fun x => [.own 3 1 (.slice x.A ((cntL t11.l)).length x.c) ((cntL t11.l)).length (((cntL t11.l)).map (fun x : Int => Value.int .i64 x))]) (fun ρ x => True), .val (fun ρ => (.bool true)), .val (fun ρ => (.bool false)), .val (fun ρ => (.bool false))] [[], [], [], [], [], [], [], [], [], [], [], [5], [5, 11], [5, 11], [5, 11], [5, 11], [5, 11], [5, 11], [5, 11], [5, 11], [5, 11], [5, 11], [5, 11], [5, 11], [5, 11], [5, 11], [5, 11, 20], [5, 11, 20, 26], [5, 11, 20, 26], [5, 11, 20, 26]] 30 (by kernel_rfl) (by kernel_rfl) ⟨⟨⟨⟨⟨⟨⟨⟨⟨⟨⟨⟨⟨⟨⟨⟨⟨⟨⟨⟨⟨⟨⟨⟨⟨⟨⟨⟨⟨⟨trivial, ?_⟩, ?_⟩, ?_⟩, ?_⟩, ?_⟩, ?_⟩, ?_⟩, ?_⟩, ?_⟩, ?_⟩, ?_⟩, ?_⟩, ?_⟩, ?_⟩, ?_⟩, ?_⟩, ?_⟩, ?_⟩, ?_⟩, ?_⟩, ?_⟩, ?_⟩, ?_⟩, ?_⟩, ?_⟩, ?_⟩, ?_⟩, ?_⟩, ?_⟩, ?_⟩ (fun χ => [(89, .bool false), (57, .bool true), (52, .bool false), (29, .bool false), (11, .bool false), (8, .bool false), (7, pA b4 0), (6, pA b3 0), (5, pA b2 0), (4, pA b1 0), (0, vG p), (1, vG q), (2, vE e), (3, vE g), (9, vN i)]) (fun χ => by kernel_rfl) ?_
      ·exact .val _ rfl (fun χ => by kernel_rfl) (fun χ w _ _ => (by kernel_rfl))
      ·exact .val _ rfl (fun χ => by kernel_rfl) (by intro χ w hr hM; replace hM := hM.to ((.row b4 28 (cE g) :: .row b3 28 (cE e) :: .row b2 25 [.slice q.A1 q.ds.length q.c1, .slice q.A2 q.ts.length q.c2] :: .row b1 25 [.slice p.A1 p.ds.length p.c1, .slice p.A2 p.ts.length p.c2] :: x9_18.G)) (by kernel_rfl); exact rL rfl rfl ((hM.row 3 rfl).cells 1 1) (by kernel_rfl))
      ·exact .val _ rfl (fun χ => by kernel_rfl) (fun χ w _ _ => (by kernel_rfl))
      ·exact .val _ rfl (fun χ => by kernel_rfl) (fun χ w _ _ => (rX (k := i) (s := 1) rfl rfl At11 rfl Tryz.underlying23 (by kernel_rfl) (by omega)))
      ·exact .val _ rfl (fun χ => by kernel_rfl) (by intro χ w hr hM; replace hM := hM.to ((.row b4 28 (cE g) :: .row b3 28 (cE e) :: .row b2 25 [.slice q.A1 q.ds.length q.c1, .slice q.A2 q.ts.length q.c2] :: .row b1 25 [.slice p.A1 p.ds.length p.c1, .slice p.A2 p.ts.length p.c2] :: x9_18.G)) (by kernel_rfl); exact rL rfl rfl ((ct11.on hM.below)) (by kernel_rfl))
      ·exact .give (τ := Option Addr × Nat) _ (fun χ => #[.slice t11.A t11.l.length t11.c]) _ _ _ (fun χ x => .slice x.1 ((setL (smsRg t11.l))).length x.2) (fun χ x => [.own 9 1 (.slice x.1 ((setL (smsRg t11.l))).length x.2) ((setL (smsRg t11.l))).length (((setL (smsRg t11.l))).map Str)]) (fun χ x => True) (fun x => { A := x.1, c := x.2 }) rfl (fun χ => by kernel_rfl) (fun χ w => (rC en_ast_Regs rfl rfl (by kernel_rfl))) (by intro χ w hr hM; replace hM := hM.to ((.row b4 28 (cE g) :: .row b3 28 (cE e) :: .row b2 25 [.slice q.A1 q.ds.length q.c1, .slice q.A2 q.ts.length q.c2] :: .row b1 25 [.slice p.A1 p.ds.length p.c1, .slice p.A2 p.ts.length p.c2] :: x9_18.G)) (by kernel_rfl); exact ast_RegsT t11.l _ (et11.1.on hM.below) (by have h8 := thsSz_mem ht11; omega) (hsh2.2 _ (List.mem_of_getElem? ht11))) (fun χ x => rfl) (fun χ x => rfl) (fun χ x hr h => trivial)
      ·exact .val _ rfl (fun χ => by kernel_rfl) (fun χ w _ _ => (by kernel_rfl))
      ·exact .val _ rfl (fun χ => by kernel_rfl) (by intro χ w hr hM; replace hM := hM.to ((.row b4 28 (cE g) :: .row b3 28 (cE e) :: .row b2 25 [.slice q.A1 q.ds.length q.c1, .slice q.A2 q.ts.length q.c2] :: .row b1 25 [.slice p.A1 p.ds.length p.c1, .slice p.A2 p.ts.length p.c2] :: x9_18.G)) (by kernel_rfl); exact rL rfl rfl ((hM.row 3 rfl).cells 1 1) (by kernel_rfl))
      ·exact .val _ rfl (fun χ => by kernel_rfl) (fun χ w _ _ => (by kernel_rfl))
      ·exact .val _ rfl (fun χ => by kernel_rfl) (fun χ w _ _ => (rX (k := i) (s := 1) rfl rfl At11 rfl Tryz.underlying23 (by kernel_rfl) (by omega)))
      ·exact .val _ rfl (fun χ => by kernel_rfl) (by intro χ w hr hM; replace hM := hM.to ((.row b4 28 (cE g) :: .row b3 28 (cE e) :: .row b2 25 [.slice q.A1 q.ds.length q.c1, .slice q.A2 q.ts.length q.c2] :: .row b1 25 [.slice p.A1 p.ds.length p.c1, .slice p.A2 p.ts.length p.c2] :: x9_18.G)) (by kernel_rfl); exact rL rfl rfl ((ct11.on hM.below)) (by kernel_rfl))
      ·exact .give (τ := Option Addr × Nat) _ (fun χ => #[.slice t11.A t11.l.length t11.c]) _ _ _ (fun χ x => .slice x.1 ((setL (smsRg t11.l))).length x.2) (fun χ x => [.own 9 1 (.slice x.1 ((setL (smsRg t11.l))).length x.2) ((setL (smsRg t11.l))).length (((setL (smsRg t11.l))).map Str)]) (fun χ x => True) (fun x => { A := x.1, c := x.2 }) rfl (fun χ => by kernel_rfl) (fun χ w => (rC en_cantileverref03_Regs rfl rfl (by kernel_rfl))) (by intro χ w hr hM; replace hM := hM.to ((.own 9 1 (.slice (χ 5).A ((setL (smsRg t11.l))).length (χ 5).c) ((setL (smsRg t11.l))).length (((setL (smsRg t11.l))).map Str) :: .row b4 28 (cE g) :: .row b3 28 (cE e) :: .row b2 25 [.slice q.A1 q.ds.length q.c1, .slice q.A2 q.ts.length q.c2] :: .row b1 25 [.slice p.A1 p.ds.length p.c1, .slice p.A2 p.ts.length p.c2] :: x9_18.G)) (by kernel_rfl); exact ref_Regs t11.l _ _ _ (et11.1.on hM.below) (by have h8 := thsSz_mem ht11; omega)) (fun χ x => rfl) (fun χ x => rfl) (fun χ x hr h => trivial)
      ·exact .call _ (fun χ => #[.slice (χ 5).A ((setL (smsRg t11.l))).length (χ 5).c, .slice (χ 11).A ((setL (smsRg t11.l))).length (χ 11).c]) _ rfl (fun χ => by kernel_rfl) (fun χ w => (rC en_cantileverkit_Texts rfl rfl (by kernel_rfl))) (by intro χ w hr hM; replace hM := hM.to ((.own 9 1 (.slice (χ 5).A ((setL (smsRg t11.l))).length (χ 5).c) ((setL (smsRg t11.l))).length (((setL (smsRg t11.l))).map Str) :: .own 9 1 (.slice (χ 11).A ((setL (smsRg t11.l))).length (χ 11).c) ((setL (smsRg t11.l))).length (((setL (smsRg t11.l))).map Str) :: .row b4 28 (cE g) :: .row b3 28 (cE e) :: .row b2 25 [.slice q.A1 q.ds.length q.c1, .slice q.A2 q.ts.length q.c2] :: .row b1 25 [.slice p.A1 p.ds.length p.c1, .slice p.A2 p.ts.length p.c2] :: x9_18.G)) (by kernel_rfl); exact ret_eq (kit_Texts (setL (smsRg t11.l)) (setL (smsRg t11.l)) _ (own_at (hM.own 0 rfl)) (own_at (hM.own 1 rfl)) (by have h1 := setL_len (smsRg t11.l); have h2 := smsRg_sz t11.l; have h3 := thsSz_mem ht11; omega) (by have h1 := setL_len (smsRg t11.l); have h2 := smsRg_sz t11.l; have h3 := thsSz_mem ht11; omega)) (congrArg Value.bool (decide_eq_true rfl)))
      ·exact .val _ rfl (fun χ => by kernel_rfl) (fun χ w _ _ => (by kernel_rfl))
      ·exact .val _ rfl (fun χ => by kernel_rfl) (fun χ w _ _ => (by kernel_rfl))
      ·exact .val _ rfl (fun χ => by kernel_rfl) (fun χ w _ _ => (by kernel_rfl))
      ·exact .val _ rfl (fun χ => by kernel_rfl) (by intro χ w hr hM; replace hM := hM.to ((.own 9 1 (.slice (χ 5).A ((setL (smsRg t11.l))).length (χ 5).c) ((setL (smsRg t11.l))).length (((setL (smsRg t11.l))).map Str) :: .own 9 1 (.slice (χ 11).A ((setL (smsRg t11.l))).length (χ 11).c) ((setL (smsRg t11.l))).length (((setL (smsRg t11.l))).map Str) :: .row b4 28 (cE g) :: .row b3 28 (cE e) :: .row b2 25 [.slice q.A1 q.ds.length q.c1, .slice q.A2 q.ts.length q.c2] :: .row b1 25 [.slice p.A1 p.ds.length p.c1, .slice p.A2 p.ts.length p.c2] :: x9_18.G)) (by kernel_rfl); exact rL rfl rfl ((hM.row 5 rfl).cells 1 1) (by kernel_rfl))
      ·exact .val _ rfl (fun χ => by kernel_rfl) (fun χ w _ _ => (by kernel_rfl))
      ·exact .val _ rfl (fun χ => by kernel_rfl) (fun χ w _ _ => (rX (k := i) (s := 1) rfl rfl At11 rfl Tryz.underlying23 (by kernel_rfl) (by omega)))
      ·exact .val _ rfl (fun χ => by kernel_rfl) (by intro χ w hr hM; replace hM := hM.to ((.own 9 1 (.slice (χ 5).A ((setL (smsRg t11.l))).length (χ 5).c) ((setL (smsRg t11.l))).length (((setL (smsRg t11.l))).map Str) :: .own 9 1 (.slice (χ 11).A ((setL (smsRg t11.l))).length (χ 11).c) ((setL (smsRg t11.l))).length (((setL (smsRg t11.l))).map Str) :: .row b4 28 (cE g) :: .row b3 28 (cE e) :: .row b2 25 [.slice q.A1 q.ds.length q.c1, .slice q.A2 q.ts.length q.c2] :: .row b1 25 [.slice p.A1 p.ds.length p.c1, .slice p.A2 p.ts.length p.c2] :: x9_18.G)) (by kernel_rfl); exact rL rfl rfl ((ct11.on hM.below)) (by kernel_rfl))
      ·exact .give (τ := Nat) _ (fun χ => #[.slice t11.A t11.l.length t11.c]) _ _ _ (fun χ x => .slice (some ⟨x, 0, none⟩) 11 11) (fun χ x => [.row x 3 (kL fun j => smsCt j t11.l)]) (fun χ x => True) (fun x => { b := x }) rfl (fun χ => by kernel_rfl) (fun χ w => (rC en_ast_Kinds rfl rfl (by kernel_rfl))) (by intro χ w hr hM; replace hM := hM.to ((.own 9 1 (.slice (χ 5).A ((setL (smsRg t11.l))).length (χ 5).c) ((setL (smsRg t11.l))).length (((setL (smsRg t11.l))).map Str) :: .own 9 1 (.slice (χ 11).A ((setL (smsRg t11.l))).length (χ 11).c) ((setL (smsRg t11.l))).length (((setL (smsRg t11.l))).map Str) :: .row b4 28 (cE g) :: .row b3 28 (cE e) :: .row b2 25 [.slice q.A1 q.ds.length q.c1, .slice q.A2 q.ts.length q.c2] :: .row b1 25 [.slice p.A1 p.ds.length p.c1, .slice p.A2 p.ts.length p.c2] :: x9_18.G)) (by kernel_rfl); exact ast_Kinds t11.l _ (et11.1.on hM.below) (by have h8 := thsSz_mem ht11; omega) (hsh2.2 _ (List.mem_of_getElem? ht11))) (fun χ x => rfl) (fun χ x => rfl) (fun χ x hr h => trivial)
      ·exact .val _ rfl (fun χ => by kernel_rfl) (fun χ w _ _ => (by kernel_rfl))
      ·exact .val _ rfl (fun χ => by kernel_rfl) (by intro χ w hr hM; replace hM := hM.to ((.own 9 1 (.slice (χ 5).A ((setL (smsRg t11.l))).length (χ 5).c) ((setL (smsRg t11.l))).length (((setL (smsRg t11.l))).map Str) :: .own 9 1 (.slice (χ 11).A ((setL (smsRg t11.l))).length (χ 11).c) ((setL (smsRg t11.l))).length (((setL (smsRg t11.l))).map Str) :: .row b4 28 (cE g) :: .row b3 28 (cE e) :: .row b2 25 [.slice q.A1 q.ds.length q.c1, .slice q.A2 q.ts.length q.c2] :: .row b1 25 [.slice p.A1 p.ds.length p.c1, .slice p.A2 p.ts.length p.c2] :: x9_18.G)) (by kernel_rfl); exact rL rfl rfl ((hM.row 5 rfl).cells 1 1) (by kernel_rfl))
      ·exact .val _ rfl (fun χ => by kernel_rfl) (fun χ w _ _ => (by kernel_rfl))
      ·exact .val _ rfl (fun χ => by kernel_rfl) (fun χ w _ _ => (rX (k := i) (s := 1) rfl rfl At11 rfl Tryz.underlying23 (by kernel_rfl) (by omega)))
      ·exact .val _ rfl (fun χ => by kernel_rfl) (by intro χ w hr hM; replace hM := hM.to ((.own 9 1 (.slice (χ 5).A ((setL (smsRg t11.l))).length (χ 5).c) ((setL (smsRg t11.l))).length (((setL (smsRg t11.l))).map Str) :: .own 9 1 (.slice (χ 11).A ((setL (smsRg t11.l))).length (χ 11).c) ((setL (smsRg t11.l))).length (((setL (smsRg t11.l))).map Str) :: .row b4 28 (cE g) :: .row b3 28 (cE e) :: .row b2 25 [.slice q.A1 q.ds.length q.c1, .slice q.A2 q.ts.length q.c2] :: .row b1 25 [.slice p.A1 p.ds.length p.c1, .slice p.A2 p.ts.length p.c2] :: x9_18.G)) (by kernel_rfl); exact rL rfl rfl ((ct11.on hM.below)) (by kernel_rfl))
      ·exact .give (τ := Option Addr × Nat) _ (fun χ => #[.slice t11.A t11.l.length t11.c]) _ _ _ (fun χ x => .slice x.1 ((cntL t11.l)).length x.2) (fun χ x => [.own 3 1 (.slice x.1 ((cntL t11.l)).length x.2) ((cntL t11.l)).length (((cntL t11.l)).map (fun x : Int => Value.int .i64 x))]) (fun χ x => True) (fun x => { A := x.1, c := x.2 }) rfl (fun χ => by kernel_rfl) (fun χ w => (rC en_cantileverref03_Kinds rfl rfl (by kernel_rfl))) (by intro χ w hr hM; replace hM := hM.to ((.own 9 1 (.slice (χ 5).A ((setL (smsRg t11.l))).length (χ 5).c) ((setL (smsRg t11.l))).length (((setL (smsRg t11.l))).map Str) :: .own 9 1 (.slice (χ 11).A ((setL (smsRg t11.l))).length (χ 11).c) ((setL (smsRg t11.l))).length (((setL (smsRg t11.l))).map Str) :: .row (χ 20).b 3 (kL fun j => smsCt j t11.l) :: .row b4 28 (cE g) :: .row b3 28 (cE e) :: .row b2 25 [.slice q.A1 q.ds.length q.c1, .slice q.A2 q.ts.length q.c2] :: .row b1 25 [.slice p.A1 p.ds.length p.c1, .slice p.A2 p.ts.length p.c2] :: x9_18.G)) (by kernel_rfl); exact ref_Kinds t11.l _ _ _ (et11.1.on hM.below) (by have h8 := thsSz_mem ht11; omega)) (fun χ x => rfl) (fun χ x => rfl) (fun χ x hr h => trivial)
      ·exact .call _ (fun χ => #[.slice (some ⟨(χ 20).b, 0, none⟩) 11 11, .slice (χ 26).A ((cntL t11.l)).length (χ 26).c]) _ rfl (fun χ => by kernel_rfl) (fun χ w => (rC en_cantileverkit_Ints rfl rfl (by kernel_rfl))) (by intro χ w hr hM; replace hM := hM.to ((.own 9 1 (.slice (χ 5).A ((setL (smsRg t11.l))).length (χ 5).c) ((setL (smsRg t11.l))).length (((setL (smsRg t11.l))).map Str) :: .own 9 1 (.slice (χ 11).A ((setL (smsRg t11.l))).length (χ 11).c) ((setL (smsRg t11.l))).length (((setL (smsRg t11.l))).map Str) :: .row (χ 20).b 3 (kL fun j => smsCt j t11.l) :: .own 3 1 (.slice (χ 26).A ((cntL t11.l)).length (χ 26).c) ((cntL t11.l)).length (((cntL t11.l)).map (fun x : Int => Value.int .i64 x)) :: .row b4 28 (cE g) :: .row b3 28 (cE e) :: .row b2 25 [.slice q.A1 q.ds.length q.c1, .slice q.A2 q.ts.length q.c2] :: .row b1 25 [.slice p.A1 p.ds.length p.c1, .slice p.A2 p.ts.length p.c2] :: x9_18.G)) (by kernel_rfl); exact ret_eq (kit_Ints (cntL t11.l) (cntL t11.l) _ (HandAt.row (f := fun x : Int => Value.int .i64 x) (l := cntL t11.l) (kL_cnt t11.l ▸ hM.row 2 rfl)) (own_at (hM.own 3 rfl)) (cntL_len _) (cntL_len _)) (congrArg Value.bool (decide_eq_true rfl)))
      ·exact .val _ rfl (fun χ => by kernel_rfl) (fun χ w _ _ => (by kernel_rfl))
      ·exact .val _ rfl (fun χ => by kernel_rfl) (fun χ w _ _ => (by kernel_rfl))
      intro χ a w hrel hK hM
      replace hK : Knows a 90 [(89, .bool false), (57, .bool true), (52, .bool false), (29, .bool false), (11, .bool false), (8, .bool false), (7, pA b4 0), (6, pA b3 0), (5, pA b2 0), (4, pA b1 0), (0, vG p), (1, vG q), (2, vE e), (3, vE g), (9, vN i)] := hK
      replace hM := hM.to (((.own 9 1 (.slice (χ 5).A ((setL (smsRg t11.l))).length (χ 5).c) ((setL (smsRg t11.l))).length (((setL (smsRg t11.l))).map Str) :: (.own 9 1 (.slice (χ 11).A ((setL (smsRg t11.l))).length (χ 11).c) ((setL (smsRg t11.l))).length (((setL (smsRg t11.l))).map Str) :: (.row (χ 20).b 3 (kL fun j => smsCt j t11.l) :: (.own 3 1 (.slice (χ 26).A ((cntL t11.l)).length (χ 26).c) ((cntL t11.l)).length (((cntL t11.l)).map (fun x : Int => Value.int .i64 x)) :: [])))) ++ (.row b4 28 (cE g) :: .row b3 28 (cE e) :: .row b2 25 [.slice q.A1 q.ds.length q.c1, .slice q.A2 q.ts.length q.c2] :: .row b1 25 [.slice p.A1 p.ds.length p.c1, .slice p.A2 p.ts.length p.c2] :: x9_18.G))) (by kernel_rfl)
      generalize χ 5 = x12_5 at hK hM
      generalize χ 11 = x12_11 at hK hM
      generalize χ 20 = x12_20 at hK hM
      generalize χ 26 = x12_26 at hK hM
      clear hrel
      replace hM := hM.to ((.own 9 1 (.slice x12_5.A ((setL (smsRg t11.l))).length x12_5.c) ((setL (smsRg t11.l))).length (((setL (smsRg t11.l))).map Str) :: .own 9 1 (.slice x12_11.A ((setL (smsRg t11.l))).length x12_11.c) ((setL (smsRg t11.l))).length (((setL (smsRg t11.l))).map Str) :: .row x12_20.b 3 (kL fun j => smsCt j t11.l) :: .own 3 1 (.slice x12_26.A ((cntL t11.l)).length x12_26.c) ((cntL t11.l)).length (((cntL t11.l)).map (fun x : Int => Value.int .i64 x)) :: .row b4 28 (cE g) :: .row b3 28 (cE e) :: .row b2 25 [.slice q.A1 q.ds.length q.c1, .slice q.A2 q.ts.length q.c2] :: .row b1 25 [.slice p.A1 p.ds.length p.c1, .slice p.A2 p.ts.length p.c2] :: x9_18.G)) (by kernel_rfl)
      refine wp_cond_false (hK.get rfl) ?_
      refine wp_skip ?_
      refine rg3 (by kernel_rfl) ?_
      refine sM hK 58 9 (by kernel_rfl) (.inl rfl) rfl fun a hK => ?_
      refine sP hK 59 (.int .i64 (((i + 1) : Nat) : Int)) (by kernel_rfl) (run_addN (i := i) (j := 1) rfl rfl rfl (by omega)) fun a hK => ?_
      refine sM hK 9 59 (by kernel_rfl) (.inr rfl) rfl fun a hK => ?_
      refine rps ?_
      replace hM := hM.drop 4
      replace hM := hM.to ((.row b4 28 (cE g) :: .row b3 28 (cE e) :: .row b2 25 [.slice q.A1 q.ds.length q.c1, .slice q.A2 q.ts.length q.c2] :: .row b1 25 [.slice p.A1 p.ds.length p.c1, .slice p.A2 p.ts.length p.c2] :: x9_18.G)) (by kernel_rfl)
      have hRn : (i + 1) ≤ p.ts.length := (by omega)
      have hmn : p.ts.length - (i + 1) < p.ts.length - i := by omega
      exact ⟨i + 1, hK.sub ⟨rfl, rfl, rfl, rfl, rfl, rfl, rfl, rfl, rfl, rfl, rfl, rfl, rfl, trivial⟩, hM, hRn, hmn⟩
     ·refine sP hK 57 (.bool false) (by kernel_rfl) (oB (b := (decide ((((i : Nat) : Int) : Int) < ((p.ts.length : Nat) : Int)))) (by kernel_rfl) (decide_eq_false h10)) fun a hK => ?_
      refine rps ?_
      refine wp_cond_false (hK.get rfl) ?_
      refine wp_exit (exit_then (exit_then (exit_here 0 ?_)))
      refine wp_seq ?_
      refine rg1 (by kernel_rfl) ?_
      refine sP hK 8 (.bool true) (by kernel_rfl) (by kernel_rfl) fun a hK => ?_
      refine rps ?_
      refine wp_ret ?_
      exact ret_t hK rfl (u := (.bool true)) rfl (⟨rfl, hM.below⟩)
    ·refine sR hK hM 27 #[vE g, .int .i64 3000] (.bool false) (by kernel_rfl) (rC en_cantileverkit_Light rfl rfl (by kernel_rfl)) (ret_eq (kit_Light g 3000 _ (hg.on hM.below) (by decide) (by decide)) (congrArg Value.bool h8)) fun a w hK hM => ?_
     refine sP hK 28 (.bool true) (by kernel_rfl) (by kernel_rfl) fun a hK => ?_
     refine sP hK 29 (.bool true) (by kernel_rfl) (by kernel_rfl) fun a hK => ?_
     refine rps ?_
     refine wp_cond_true (hK.get rfl) ?_
     refine wp_seq ?_
     refine rg1 (by kernel_rfl) ?_
     refine sP hK 8 (.bool true) (by kernel_rfl) (by kernel_rfl) fun a hK => ?_
     refine rps ?_
     refine wp_ret ?_
     exact ret_t hK rfl (u := (.bool true)) rfl (⟨rfl, hM.below⟩)
   ·refine sR hK hM 22 #[vE e, .int .i64 3000] (.bool false) (by kernel_rfl) (rC en_cantileverkit_Light rfl rfl (by kernel_rfl)) (ret_eq (kit_Light e 3000 _ (he.on hM.below) (by decide) (by decide)) (congrArg Value.bool h7)) fun a w hK hM => ?_
    refine sP hK 23 (.bool true) (by kernel_rfl) (by kernel_rfl) fun a hK => ?_
    refine sP hK 24 (.bool true) (by kernel_rfl) (by kernel_rfl) fun a hK => ?_
    refine sM hK 25 24 (by kernel_rfl) (.inl rfl) rfl fun a hK => ?_
    refine sN hK 26 (by kernel_rfl) fun a hK => ?_
    refine sN hK 27 (by kernel_rfl) fun a hK => ?_
    refine sN hK 28 (by kernel_rfl) fun a hK => ?_
    refine sP hK 29 (.bool true) (by kernel_rfl) (by kernel_rfl) fun a hK => ?_
    refine rps ?_
    refine wp_cond_true (hK.get rfl) ?_
    refine wp_seq ?_
    refine rg1 (by kernel_rfl) ?_
    refine sP hK 8 (.bool true) (by kernel_rfl) (by kernel_rfl) fun a hK => ?_
    refine rps ?_
    refine wp_ret ?_
    exact ret_t hK rfl (u := (.bool true)) rfl (⟨rfl, hM.below⟩)
  ·refine sR hK hM 17 #[vG q, .int .i64 3000] (.bool false) (by kernel_rfl) (rC en_cantileverkit_LightProgram rfl rfl (by kernel_rfl)) (ret_eq (kit_LightProgram q 3000 _ (hq.on hM.below) (by decide) (by decide)) (congrArg Value.bool h6)) fun a w hK hM => ?_
   refine sP hK 18 (.bool true) (by kernel_rfl) (by kernel_rfl) fun a hK => ?_
   refine sP hK 19 (.bool true) (by kernel_rfl) (by kernel_rfl) fun a hK => ?_
   refine sM hK 20 19 (by kernel_rfl) (.inl rfl) rfl fun a hK => ?_
   refine sN hK 21 (by kernel_rfl) fun a hK => ?_
   refine sN hK 22 (by kernel_rfl) fun a hK => ?_
   refine sN hK 23 (by kernel_rfl) fun a hK => ?_
   refine sP hK 24 (.bool true) (by kernel_rfl) (by kernel_rfl) fun a hK => ?_
   refine sM hK 25 24 (by kernel_rfl) (.inl rfl) rfl fun a hK => ?_
   refine sN hK 26 (by kernel_rfl) fun a hK => ?_
   refine sN hK 27 (by kernel_rfl) fun a hK => ?_
   refine sN hK 28 (by kernel_rfl) fun a hK => ?_
   refine sP hK 29 (.bool true) (by kernel_rfl) (by kernel_rfl) fun a hK => ?_
   refine rps ?_
   refine wp_cond_true (hK.get rfl) ?_
   refine wp_seq ?_
   refine rg1 (by kernel_rfl) ?_
   refine sP hK 8 (.bool true) (by kernel_rfl) (by kernel_rfl) fun a hK => ?_
   refine rps ?_
   refine wp_ret ?_
   exact ret_t hK rfl (u := (.bool true)) rfl (⟨rfl, hM.below⟩)
 ·refine sR hK hM 13 #[vG p, .int .i64 3000] (.bool false) (by kernel_rfl) (rC en_cantileverkit_LightProgram rfl rfl (by kernel_rfl)) (ret_eq (kit_LightProgram p 3000 _ (hp.on hM.below) (by decide) (by decide)) (congrArg Value.bool h5)) fun a w hK hM => ?_
  refine sP hK 14 (.bool true) (by kernel_rfl) (by kernel_rfl) fun a hK => ?_
  refine sM hK 15 14 (by kernel_rfl) (.inl rfl) rfl fun a hK => ?_
  refine sN hK 16 (by kernel_rfl) fun a hK => ?_
  refine sN hK 17 (by kernel_rfl) fun a hK => ?_
  refine sN hK 18 (by kernel_rfl) fun a hK => ?_
  refine sP hK 19 (.bool true) (by kernel_rfl) (by kernel_rfl) fun a hK => ?_
  refine sM hK 20 19 (by kernel_rfl) (.inl rfl) rfl fun a hK => ?_
  refine sN hK 21 (by kernel_rfl) fun a hK => ?_
  refine sN hK 22 (by kernel_rfl) fun a hK => ?_
  refine sN hK 23 (by kernel_rfl) fun a hK => ?_
  refine sP hK 24 (.bool true) (by kernel_rfl) (by kernel_rfl) fun a hK => ?_
  refine sM hK 25 24 (by kernel_rfl) (.inl rfl) rfl fun a hK => ?_
  refine sN hK 26 (by kernel_rfl) fun a hK => ?_
  refine sN hK 27 (by kernel_rfl) fun a hK => ?_
  refine sN hK 28 (by kernel_rfl) fun a hK => ?_
  refine sP hK 29 (.bool true) (by kernel_rfl) (by kernel_rfl) fun a hK => ?_
  refine rps ?_
  refine wp_cond_true (hK.get rfl) ?_
  refine wp_seq ?_
  refine rg1 (by kernel_rfl) ?_
  refine sP hK 8 (.bool true) (by kernel_rfl) (by kernel_rfl) fun a hK => ?_
  refine rps ?_
  refine wp_ret ?_
  exact ret_t hK rfl (u := (.bool true)) rfl (⟨rfl, hM.below⟩)
end Go.Proofs.YtiigncmpbkfhmaaGreatDoor
namespace Go.Proofs.YtiigncmpbkfhmaaGreatDoor
open Go Go.ChangeShapes Go.WideShapes Go.ChangeAt Go.RowKit Go.Joins
theorem cellsOStr : Tryz.prog.cellsOf 9 = 1 := by kernel_rfl
theorem cellsO64 : Tryz.prog.cellsOf 2 = 1 := by kernel_rfl
theorem cellsOE : Tryz.prog.cellsOf 28 = 4 := by kernel_rfl
theorem cellsOS : Tryz.prog.cellsOf 64 = 7 := by kernel_rfl
theorem cellsOD : Tryz.prog.cellsOf 48 = 3 := by kernel_rfl
theorem cellsOEs : Tryz.prog.cellsOf 26 = 1 := by kernel_rfl
theorem cellsOSs : Tryz.prog.cellsOf 38 = 1 := by kernel_rfl
theorem cellsODs : Tryz.prog.cellsOf 22 = 1 := by kernel_rfl
theorem cellsOTs : Tryz.prog.cellsOf 23 = 1 := by kernel_rfl
theorem cellsOP : Tryz.prog.cellsOf 25 = 2 := by kernel_rfl
theorem str_len {s : ByteArray} (h : s.size ≤ maxLen) : s.data.toList.length ≤ 9223372036854775807 := by
  unfold maxLen at h
  have : s.data.toList.length = s.size := Array.length_toList
  omega
section
variable {H : Type} {enc : TypeId × Value → H}
theorem open_rows {T : Type} {W : World} {ty et : TypeId} {fuel : Nat} {cs : List Value} {y : DataW H × List MemPlace} {s : Nat} (cT : T → List Value) (q : T → Prop)
    (hu : Tryz.prog.underlying ty = some (.slice et)) (hs : Tryz.prog.cellsOf et = s) (hlen : ∀ x, (cT x).length = s)
    (ih : ∀ (n : Nat) (cs : List Value) (y : DataW H × List MemPlace), n < fuel → DataW.trod enc Tryz.prog W 0 (fun _ => true) true n et cs = some y → ∃ x : T, cs = cT x ∧ q x)
    (h : DataW.trod enc Tryz.prog W 0 (fun _ => true) true fuel ty cs = some y) :
    ∃ (A : Option Addr) (c : Nat) (l : List T), cs = [.slice A l.length c] ∧ l.length ≤ 9223372036854775807 ∧ ∀ (k : Nat) (x : T), l[k]? = some x → (∃ a, A = some a ∧ CellsAt W (a.add (k * s)) (cT x)) ∧ q x := by
  rcases DataW.trod_slice hu h with ⟨e1, _⟩ | ⟨a, len, cap, elems, rest, n, hf, e1, hx, hb, hl, hm, hlen', hel, _, _⟩
  · exact ⟨none, 0, [], e1, Nat.zero_le _, fun k x hx => by simp at hx⟩
  · have key : ∀ i, i < len → ∃ x : T, CellsAt W (a.add (i * s)) (cT x) ∧ q x := by
      intro i hi
      have h1 := hel i hi
      rw [hs, List.getElem?_eq_getElem (by omega)] at h1
      obtain ⟨cs, hcs, hy⟩ := Option.bind_eq_some_iff.1 h1
      obtain ⟨_, hcl, hcc⟩ := World.cells?_some hcs
      obtain ⟨x, rfl, hq⟩ := ih n cs _ (by omega) hy
      refine ⟨x, fun j u hj => ?_, hq⟩
      have hj4 : j < s := by
        have := (List.getElem?_eq_some_iff.1 hj).1
        rwa [hlen] at this
      rw [hcc j hj4]; exact hj
    obtain ⟨l, hll, hp⟩ := list_gets key
    unfold maxLen at hm
    exact ⟨some a, cap, l, by rw [hll]; exact e1, by omega, fun k x hx => ⟨⟨a, rfl, (hp k x hx).1⟩, (hp k x hx).2⟩⟩
set_option maxRecDepth 100000 in
theorem open_exF {W : World} (fuel : Nat) : ∀ (cs : List Value) (y : DataW H × List MemPlace), DataW.trod enc Tryz.prog W 0 (fun _ => true) true fuel 28 cs = some y → ∃ e : Ex, cs = cE e ∧ ExAt W e := by
  induction fuel using Nat.strongRecOn with
  | ind fuel ih =>
    intro cs y h
    obtain ⟨xs, m, hm, _, hl, hlen, hf⟩ := DataW.trod_struct Tryz.underlying28 h
    have g0 := hf 0 _ rfl
    have g1 := hf 1 _ rfl
    have g2 := hf 2 _ rfl
    have g3 := hf 3 _ rfl
    have hlen : xs.length = 4 := hlen
    rw [cellsOE] at hl
    match xs, hlen, g0, g1, g2, g3 with
    | [x0, x1, x2, x3], _, g0, g1, g2, g3 =>
      obtain ⟨k, q0, _, _⟩ := DataW.trod_int Tryz.underlying3 g0
      obtain ⟨u, q1, _, _⟩ := DataW.trod_int Tryz.underlying2 g1
      obtain ⟨s, q2, _, hs⟩ := DataW.trod_string Tryz.underlying9 g2
      obtain ⟨A, c, l, q3, hll, hk⟩ := open_rows cE (ExAt W) Tryz.underlying26 cellsOE (fun _ => rfl) (fun n cs y hn h => ih n (by omega) cs y h) g3
      match cs, hl, q0, q1, q2, q3 with
      | [c0, c1, c2, c3], _, q0, q1, q2, q3 =>
        have e0 : c0 = .int .i64 k := by simpa [cellsI] using q0
        have e1 : c1 = .int .i64 u := by simpa [cellsO64] using q1
        have e2 : c2 = .string s := by simpa [cellsOStr] using q2
        have e3 : c3 = .slice A l.length c := by simpa [cellsOEs] using q3
        refine ⟨.mk k u s.data.toList A c l, by rw [e0, e1, e2, e3]; rfl, .mk _ ⟨str_len hs, hll⟩ (fun k x hx => (hk k x hx).1) fun k x hx => (hk k x hx).2⟩
set_option maxRecDepth 100000 in
theorem open_smF {W : World} (fuel : Nat) : ∀ (cs : List Value) (y : DataW H × List MemPlace), DataW.trod enc Tryz.prog W 0 (fun _ => true) true fuel 64 cs = some y → ∃ s : Sm, cs = cS s ∧ SmAt W s := by
  induction fuel using Nat.strongRecOn with
  | ind fuel ih =>
    intro cs y h
    obtain ⟨xs, m, hm, _, hl, hlen, hf⟩ := DataW.trod_struct Tryz.underlying64 h
    have g0 := hf 0 _ rfl
    have g1 := hf 1 _ rfl
    have g2 := hf 2 _ rfl
    have g3 := hf 3 _ rfl
    have g4 := hf 4 _ rfl
    have g5 := hf 5 _ rfl
    have g6 := hf 6 _ rfl
    have hlen : xs.length = 7 := hlen
    rw [cellsOS] at hl
    match xs, hlen, g0, g1, g2, g3, g4, g5, g6 with
    | [x0, x1, x2, x3, x4, x5, x6], _, g0, g1, g2, g3, g4, g5, g6 =>
      obtain ⟨k, q0, _, _⟩ := DataW.trod_int Tryz.underlying3 g0
      obtain ⟨s, q1, _, hs⟩ := DataW.trod_string Tryz.underlying9 g1
      obtain ⟨u, q2, _, hu⟩ := DataW.trod_string Tryz.underlying9 g2
      obtain ⟨o, q3, _, _⟩ := DataW.trod_int Tryz.underlying3 g3
      obtain ⟨A1, n1, l1, q4, hl1, hk1⟩ := open_rows cE (ExAt W) Tryz.underlying26 cellsOE (fun _ => rfl) (fun n cs y _ h => open_exF n cs y h) g4
      obtain ⟨A2, n2, l2, q5, hl2, hk2⟩ := open_rows cS (SmAt W) Tryz.underlying38 cellsOS (fun _ => rfl) (fun n cs y hn h => ih n (by omega) cs y h) g5
      obtain ⟨A3, n3, l3, q6, hl3, hk3⟩ := open_rows cS (SmAt W) Tryz.underlying38 cellsOS (fun _ => rfl) (fun n cs y hn h => ih n (by omega) cs y h) g6
      match cs, hl, q0, q1, q2, q3, q4, q5, q6 with
      | [c0, c1, c2, c3, c4, c5, c6], _, q0, q1, q2, q3, q4, q5, q6 =>
        have e0 : c0 = .int .i64 k := by simpa [cellsI] using q0
        have e1 : c1 = .string s := by simpa [cellsOStr] using q1
        have e2 : c2 = .string u := by simpa [cellsOStr] using q2
        have e3 : c3 = .int .i64 o := by simpa [cellsI] using q3
        have e4 : c4 = .slice A1 l1.length n1 := by simpa [cellsOEs] using q4
        have e5 : c5 = .slice A2 l2.length n2 := by simpa [cellsOSs] using q5
        have e6 : c6 = .slice A3 l3.length n3 := by simpa [cellsOSs] using q6
        refine ⟨.mk k s.data.toList u.data.toList o A1 n1 l1 A2 n2 l2 A3 n3 l3, by rw [e0, e1, e2, e3, e4, e5, e6]; rfl, .mk _ ⟨str_len hs, str_len hu, hl1, hl2, hl3⟩ (fun k x hx => hk1 k x hx) (fun k x hx => (hk2 k x hx).1) (fun k x hx => (hk2 k x hx).2) (fun k x hx => (hk3 k x hx).1) fun k x hx => (hk3 k x hx).2⟩
set_option maxRecDepth 100000 in
theorem open_dcF {W : World} (fuel : Nat) (cs : List Value) (y : DataW H × List MemPlace) (h : DataW.trod enc Tryz.prog W 0 (fun _ => true) true fuel 48 cs = some y) : ∃ d : Dc, cs = cD d ∧ d.nm.length ≤ 9223372036854775807 := by
  obtain ⟨xs, m, hm, _, hl, hlen, hf⟩ := DataW.trod_struct Tryz.underlying48 h
  have g0 := hf 0 _ rfl
  have g1 := hf 1 _ rfl
  have g2 := hf 2 _ rfl
  have hlen : xs.length = 3 := hlen
  rw [cellsOD] at hl
  match xs, hlen, g0, g1, g2 with
  | [x0, x1, x2], _, g0, g1, g2 =>
    obtain ⟨s, q0, _, hs⟩ := DataW.trod_string Tryz.underlying9 g0
    obtain ⟨b, q1, _⟩ := DataW.trod_bool Tryz.underlying4 g1
    obtain ⟨u, q2, _, _⟩ := DataW.trod_int Tryz.underlying2 g2
    match cs, hl, q0, q1, q2 with
    | [c0, c1, c2], _, q0, q1, q2 =>
      have e0 : c0 = .string s := by simpa [cellsOStr] using q0
      have e1 : c1 = .bool b := by simpa [cellsB] using q1
      have e2 : c2 = .int .i64 u := by simpa [cellsO64] using q2
      exact ⟨⟨s.data.toList, b, u⟩, by rw [e0, e1, e2]; rfl, str_len hs⟩
theorem open_thF {W : World} (fuel : Nat) (cs : List Value) (y : DataW H × List MemPlace) (h : DataW.trod enc Tryz.prog W 0 (fun _ => true) true fuel 38 cs = some y) : ∃ t : Th, cs = cT t ∧ (SmsAt W t.A t.l ∧ t.l.length ≤ 9223372036854775807) := by
  obtain ⟨A, c, l, q, hl, hk⟩ := open_rows cS (SmAt W) Tryz.underlying38 cellsOS (fun _ => rfl) (fun n cs y _ h => open_smF n cs y h) h
  exact ⟨⟨A, c, l⟩, q, fun k x hx => hk k x hx, hl⟩
set_option maxRecDepth 100000 in
theorem open_ex {r : Reach} {W : World} {b0 : Nat} {v : Value} {d : DataW H} {p : List MemPlace} (hv : Value.okWide Tryz.prog W r b0 28 v) (h : DataW.Trod enc Tryz.prog W 0 (fun _ => true) true 28 v d p) :
    ∃ e : Ex, v = vE e ∧ ExAt W e := by
  obtain ⟨vs, rfl, _⟩ := okWide_struct Tryz.underlying28 hv
  obtain ⟨fuel, hf⟩ := h
  obtain ⟨e, he, hat⟩ := open_exF fuel _ _ hf
  refine ⟨e, ?_, hat⟩
  have he : vs.toList = cE e := he
  rw [show vs = (cE e).toArray by rw [← he]]
set_option maxRecDepth 100000 in
theorem open_pg {r : Reach} {W : World} {b0 : Nat} {v : Value} {d : DataW H} {p : List MemPlace} (hv : Value.okWide Tryz.prog W r b0 25 v) (h : DataW.Trod enc Tryz.prog W 0 (fun _ => true) true 25 v d p) :
    ∃ x : Pg, v = vG x ∧ PgAt W x := by
  obtain ⟨vs, rfl, _⟩ := okWide_struct Tryz.underlying25 hv
  obtain ⟨fuel, h⟩ := h
  obtain ⟨xs, m, hm, _, hl, hlen, hf⟩ := DataW.trod_struct Tryz.underlying25 h
  have g0 := hf 0 _ rfl
  have g1 := hf 1 _ rfl
  have hlen : xs.length = 2 := hlen
  rw [cellsOP] at hl
  match xs, hlen, g0, g1 with
  | [x0, x1], _, g0, g1 =>
    obtain ⟨A1, n1, l1, q0, hl1, hk1⟩ := open_rows cD (fun d => d.nm.length ≤ 9223372036854775807) Tryz.underlying22 cellsOD (fun _ => rfl) (fun n cs y _ h => open_dcF n cs y h) g0
    obtain ⟨A2, n2, l2, q1, hl2, hk2⟩ := open_rows cT (fun t => SmsAt W t.A t.l ∧ t.l.length ≤ 9223372036854775807) Tryz.underlying23 cellsOSs (fun _ => rfl) (fun n cs y _ h => open_thF n cs y h) g1
    refine ⟨⟨A1, n1, l1, A2, n2, l2⟩, ?_, ⟨fun k d hd => hk1 k d hd, fun k t ht => ⟨(hk2 k t ht).1, (hk2 k t ht).2.1, (hk2 k t ht).2.2⟩, hl1, hl2⟩⟩
    have hl : vs.toList.length = 2 := hl
    rcases vs with ⟨vs⟩
    match vs, hl, q0, q1 with
    | [c0, c1], _, q0, q1 =>
      have e0 : c0 = .slice A1 l1.length n1 := by simpa [cellsODs, Value.cells] using q0
      have e1 : c1 = .slice A2 l2.length n2 := by simpa [cellsOTs, Value.cells] using q1
      rw [e0, e1]
end
end Go.Proofs.YtiigncmpbkfhmaaGreatDoor
