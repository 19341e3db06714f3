/-
  A set of texts, as a map: put in, gone through, sorted.
-/
import Derived.Test.YtmfiiapmkidmkaaDoorDR
import Derived.Test.YtmfiiapmkidmkaaDoorMaps
import Derived.Test.YtmfiiapmkidmkaaDoorShelf
namespace Go.Proofs.YtmfiiapmkidmkaaDoor
open Go Go.RowKit Go.Maps Go.Sort Go.Shelf Go.MapKept Go.ChangeMaps

/-- The keys with one more, if it is new (and no empty text). -/
def noteL (s : List UInt8) (ks : List (List UInt8)) : List (List UInt8) := if s = [] then ks else if ks.contains s = true then ks else ks ++ [s]
def setObjS (ks : List (List UInt8)) : Obj := .map (setEs 0 ks).toArray ks.length
theorem setEs_length (ks : List (List UInt8)) : ∀ i, (setEs i ks).length = ks.length := by
  induction ks with
  | nil => intro i; rfl
  | cons k ks ih => intro i; rw [setEs, List.length_cons, List.length_cons, ih]
theorem setEs_snoc (ks : List (List UInt8)) (s : List UInt8) : ∀ i, setEs i (ks ++ [s]) = setEs i ks ++ [⟨Str s, .agg #[], i + ks.length⟩] := by
  induction ks with
  | nil => intro i; rfl
  | cons k ks ih => intro i; rw [List.cons_append, setEs, setEs, ih, List.length_cons, List.cons_append, show i + 1 + ks.length = i + (ks.length + 1) by omega]
theorem setEs_keys (ks : List (List UInt8)) : ∀ i, (setEs i ks).map (·.key) = ks.map Str := by
  induction ks with
  | nil => intro i; rfl
  | cons k ks ih => intro i; rw [setEs, List.map_cons, List.map_cons, ih]
theorem setEs_vals (ks : List (List UInt8)) : ∀ i, ∀ x ∈ setEs i ks, x.val = .agg #[] ∧ ∃ s ∈ ks, x.key = Str s := by
  induction ks with
  | nil => intro i x hx; cases hx
  | cons k ks ih =>
    intro i x hx
    rw [setEs] at hx
    rcases List.mem_cons.1 hx with rfl | hx
    · exact ⟨rfl, k, List.mem_cons_self, rfl⟩
    · obtain ⟨h1, s, h2, h3⟩ := ih _ x hx; exact ⟨h1, s, List.mem_cons_of_mem _ h2, h3⟩
theorem setEs_get (ks : List (List UInt8)) : ∀ (i j : Nat) (s : List UInt8), ks[j]? = some s → (setEs i ks)[j]? = some ⟨Str s, .agg #[], i + j⟩ := by
  induction ks with
  | nil => intro i j s h; simp at h
  | cons k ks ih =>
    intro i j s h
    cases j with
    | zero => obtain rfl := Option.some.inj h; rfl
    | succ j => rw [setEs, List.getElem?_cons_succ, ih (i + 1) j s (by simpa using h), show i + 1 + j = i + (j + 1) by omega]
theorem set_at : ∀ (ks : List (List UInt8)) (l : List UInt8) (i : Nat), ks.contains l = true → ∃ j, Instr.findNow .string (Str l) (setEs i ks) i = some (some (i + j, .agg #[])) ∧ ks[j]? = some l := by
  intro ks
  induction ks with
  | nil => intro l i h; cases h
  | cons k ks ih =>
    intro l i h
    unfold setEs Instr.findNow
    simp only [same_str]
    cases hk : (l == k) with
    | true => exact ⟨0, rfl, by simp at hk; rw [hk]; rfl⟩
    | false =>
      rw [List.contains_cons, hk, Bool.false_or] at h
      obtain ⟨j, h1, h2⟩ := ih l (i + 1) h
      exact ⟨j + 1, by rw [show i + (j + 1) = i + 1 + j by omega]; exact h1, h2⟩
theorem noteL_nodup {s : List UInt8} {ks : List (List UInt8)} (h : ks.Nodup) : (noteL s ks).Nodup := by
  unfold noteL
  split
  · exact h
  · split
    · exact h
    · rename_i h1 h2
      rw [List.nodup_append]
      exact ⟨h, by simp, fun a ha b hb e => by simp at hb; subst hb; subst e; exact h2 (by simpa using ha)⟩
section
variable {o : Oper} {ρ : Operand → Value} {w : World}
theorem run_keyStays {P : Program} (k : ByteArray) (w : World) : (Instr.keyThatStays (.string k) (.string k)).run P w = .ok (.string k) w := by
  have h : Instr.sameBits 10000 (.string k) (.string k) = true := by
    show (k == k) = true
    first
      | exact beq_self_eq_true k
      | (show (k.data == k.data) = true; simp)
  simp [Instr.keyThatStays, h]
theorem run_updS {m k v : Operand} {b : Nat} {ks : List (List UInt8)} {s : List UInt8} (hop : o.op = .mapUpdate 78 m k v) (hm : ρ m = .map (some b)) (hk : ρ k = Str s) (hv : ρ v = .agg #[]) (hs : s ≠ []) (hh : w.heap[b]? = some (setObjS ks)) : (execOp ρ o).run Tryd.prog w = .ok .skip (putObj w b (setObjS (noteL s ks))) := by
  have hmt := Tryd.underlying78
  have hkt := Tryd.underlying9
  unfold noteL
  rw [if_neg hs]
  unfold setObjS at hh
  cases hc : ks.contains s with
  | false =>
    have hf : Instr.findNow .string (.string ⟨s.toArray⟩) (setEs 0 ks).toArray.toList 0 = some none := set_no ks s 0 hc
    rw [if_neg (by decide)]
    have e : setObjS (ks ++ [s]) = .map ((setEs 0 ks).toArray.push ⟨.string ⟨s.toArray⟩, .agg #[], ks.length⟩) (ks.length + 1) := by
      unfold setObjS; rw [setEs_snoc, List.length_append, Nat.zero_add]; simp [Str]
    rw [e]
    simp [execOp, hop, hm, hk, hv, Str, Instr.mapUpdate, run_underlying hmt, getObj, setObj, Sem.run, hh, run_checkS hkt, run_findS hkt hf, putObj]
  | true =>
    obtain ⟨j, hj, hg⟩ := set_at ks s 0 hc
    rw [Nat.zero_add] at hj
    have hf : Instr.findNow .string (.string ⟨s.toArray⟩) (setEs 0 ks).toArray.toList 0 = some (some (j, .agg #[])) := hj
    have hge : (setEs 0 ks)[j]? = some ⟨Str s, .agg #[], 0 + j⟩ := setEs_get ks 0 j s hg
    rw [if_pos rfl]
    have hlt : j < (setEs 0 ks).length := (List.getElem?_eq_some_iff.1 hge).1
    have hmodL : (setEs 0 ks).modify j (fun e => { e with key := .string ⟨s.toArray⟩, val := .agg #[] }) = setEs 0 ks := by
      apply List.ext_getElem?
      intro q
      rw [List.getElem?_modify]
      split
      · rename_i hq
        subst hq
        rw [hge]; rfl
      · cases (setEs 0 ks)[q]? <;> rfl
    simp only [execOp, hop, hm, hk, hv, Str]
    have hrun : (Instr.mapUpdate 78 (.map (some b)) (.string ⟨s.toArray⟩) (.agg #[])).run Tryd.prog w = .ok () (putObj w b (setObjS ks)) := by
      unfold Instr.mapUpdate
      simp [run_underlying hmt, getObj, setObj, Sem.run, hh, run_checkS hkt, run_findS hkt hf, hge, Str]
      have hks := run_keyStays (P := Tryd.prog) ⟨s.toArray⟩ w
      simp only [hks, putObj, setObjS, hh, hmodL]
      simp [hks, hh, hmodL]
    simp [hrun, Result.andThen]
end
theorem keyOf_str_mk' {s : List UInt8} (hs : s.length ≤ 65536) : keyOf Tryd.prog 9 (Str s) = some (.string s) := by
  rw [keyOf_string Tryd.underlying9]
  have h : s.length ≤ maxLen := by unfold maxLen; omega
  simp [mapKey, Str]
  show s.toArray.size ≤ maxLen
  simpa using h
abbrev RU : Value → Option (DataW Unit × List MemPlace) := fun _ => some (.agg [], [])
theorem Str_inj {x y : List UInt8} (h : Str x = Str y) : x = y := by simpa [Str] using h
theorem set_owns {w : World} {b : Nat} {ks : List (List UInt8)} (hh : w.heap[b]? = some (setObjS ks)) (hn : ks.Nodup) (hl : ks.length ≤ 1000000) (hs : ∀ k ∈ ks, k.length ≤ 65536) :
    ∃ D : DataW Unit, w.ownsMap Tryd.prog 9 RU b ks.length D ∧ (strKeys D).Perm ks ∧ Maps.size D = ks.length := by
  have hrd : ∀ x ∈ setEs 0 ks, ∃ s ∈ ks, x.key = Str s ∧ WideElems.rd Tryd.prog 9 RU x = some (.string s, .agg []) := by
    intro x hx
    obtain ⟨h1, s, h2, h3⟩ := setEs_vals ks 0 x hx
    obtain ⟨k, v, bo⟩ := x
    simp only at h1 h3
    subst h1 h3
    exact ⟨s, h2, rfl, WideElems.rd_mk (R := RU) (yv := (.agg [], [])) (keyOf_str_mk' (hs s h2)) rfl⟩
  have hborn : ∀ (ks : List (List UInt8)) (i : Nat), (setEs i ks).map (·.born) = (List.range ks.length).map (i + ·) := by
    intro ks
    induction ks with
    | nil => intro i; rfl
    | cons k ks ih =>
      intro i
      rw [setEs, List.map_cons, ih, List.length_cons, List.range_succ_eq_map, List.map_cons, List.map_map]
      congr 1
      apply List.map_congr_left
      intro j _
      show i + 1 + j = i + (j + 1); omega
  have hfit : WideElems.Fit Tryd.prog 9 RU (setEs 0 ks).toArray ks.length := by
    refine ⟨by rw [List.size_toArray, setEs_length]; unfold maxLen; omega, (stamped_iff _ _).2 ⟨?_, ?_, ?_⟩, ?_⟩
    · intro x hx
      have : x.born ∈ (setEs 0 ks).map (·.born) := List.mem_map_of_mem hx
      rw [hborn] at this
      simp at this; exact this
    · show ((setEs 0 ks).map (·.born)).Nodup
      rw [hborn]
      simpa using List.nodup_range
    · have h2 : ((setEs 0 ks).map (·.key)).Pairwise (· ≠ ·) := by
        rw [setEs_keys, List.pairwise_map]
        exact hn.imp fun h e => h (Str_inj e)
      rwa [List.pairwise_map] at h2
    · intro x hx
      obtain ⟨s, _, _, h⟩ := hrd x hx
      exact ⟨_, h⟩
  refine ⟨_, ⟨_, _, hh, hfit, by rw [List.size_toArray, setEs_length]; exact Nat.le_refl _, rfl⟩, ?_, ?_⟩
  · have h1 := (WideShapes.sorted_perm (((setEs 0 ks).toArray.toList).map (WideElems.rg Tryd.prog 9 RU))).map fun p => strOf p.1
    refine h1.trans ?_
    rw [List.map_map]
    have h2 : ((setEs 0 ks).toArray.toList).map ((fun p : Lit × DataW Unit => strOf p.1) ∘ WideElems.rg Tryd.prog 9 RU) = ks := by
      have h3 : ∀ (l : List MapEntry) (m : List (List UInt8)), l.map (·.key) = m.map Str → (∀ x ∈ l, ∃ s ∈ ks, x.key = Str s ∧ WideElems.rd Tryd.prog 9 RU x = some (.string s, .agg [])) → l.map ((fun p : Lit × DataW Unit => strOf p.1) ∘ WideElems.rg Tryd.prog 9 RU) = m := by
        intro l
        induction l with
        | nil => intro m h _; cases m with
          | nil => rfl
          | cons _ _ => simp at h
        | cons x l ih =>
          intro m h hx
          cases m with
          | nil => simp at h
          | cons y m =>
            rw [List.map_cons, List.map_cons, List.cons.injEq] at h
            obtain ⟨s, _, h4, h5⟩ := hx x List.mem_cons_self
            rw [List.map_cons, ih m h.2 fun z hz => hx z (List.mem_cons_of_mem _ hz)]
            have h6 : strOf (WideElems.rg Tryd.prog 9 RU x).1 = y := by
              rw [WideElems.rg_of h5]
              exact Str_inj (h4.symm.trans h.1)
            simp only [Function.comp_apply]
            rw [h6]
      exact h3 _ _ (setEs_keys ks 0) hrd
    rw [h2]
  · rw [Maps.size_eq, (WideShapes.sorted_perm _).length_eq]
    simp [setEs_length]
set_option maxRecDepth 100000 in
set_option maxHeartbeats 1000000 in
theorem ast_Sorted (bk bm : Nat) (ks : List (List UInt8)) (w0 : World) (h1 : RowT w0 bk 78 [.map (some bm)]) (h2 : w0.heap[bm]? = some (setObjS ks)) (hn : ks.Nodup) (hl : ks.length ≤ 1000000) (hs : ∀ k ∈ ks, k.length ≤ 65536) :
    Calls Tryd.prog 59 #[.func (.func 82) #[] #[.pointer (some ⟨bk, 0, none⟩)]] w0 (Gives w0 (fun v : Value => v) (fun v => [.own 9 1 v (ks.mergeSort leB).length ((ks.mergeSort leB).map Str)]) fun _ => True) := by
  obtain ⟨D, hown, hperm, hsz⟩ := set_owns h2 hn hl hs
  have hseq : SeqGives Fence.wide 2 Tryd.prog 82 #[.pointer (some ⟨bk, 0, none⟩)] encStr (fun ss => ss.Perm (strKeys D)) (Maps.size D) w0 :=
    AnyZ.keys_gives (ρ := Tryd.keys60_ren) { Tryd.keys60 with } Fence.wide _ trivial rfl (by omega) bk bm ks.length D w0 h1.lt (by rw [h1.cell]; rfl) hown
  have hmax : Maps.size D ≤ maxLen := by rw [hsz]; unfold maxLen; omega
  have hbytes : Maps.size D * 16 ≤ 140737488355328 := by rw [hsz]; omega
  have cS : CallsIn Fence.wide 5 Tryd.prog 59 #[.func (.func 82) #[] #[.pointer (some ⟨bk, 0, none⟩)]] w0 fun e w' => ∃ (v : Value) (ss : List (List UInt8)), e = .returned v ∧ ss.Perm (strKeys D) ∧
      w'.ownsRow w0.heap.size 9 1 v ss.length ((ss.mergeSort (fun x y => decide (x ≤ y))).map encStr) ∧ (v = .slice none 0 0 ↔ ss = []) ∧ Below w0.heap.size w0 w' := by
    exact AnyZ.sorted_in Tryd.sorted59 Fence.wide 5 trivial trivial trivial trivial rfl (by omega) (Tryd.sorts59 _) (enters_of Tryd.func81 (by kernel_rfl) rfl) 82 #[.pointer (some ⟨bk, 0, none⟩)] trivial (enters_of Tryd.func82 (by kernel_rfl) rfl) _ _ hmax hbytes _ hseq
  refine ((callsIn_wide (n := 5)).1 cS).mono ?_
  rintro e w' ⟨v, ss, rfl, hS, hrow, _, hb⟩
  have hp : ss.Perm ks := hS.trans hperm
  have e1 : ss.mergeSort (fun x y => decide (x ≤ y)) = ks.mergeSort leB := mergeSort_of_perm hp
  rw [e1] at hrow
  have e2 : ss.length = (ks.mergeSort leB).length := by rw [List.length_mergeSort]; exact hp.length_eq
  rw [e2] at hrow
  exact ⟨v, rfl, ⟨hb, fun it hi => by obtain rfl := List.mem_singleton.1 hi; exact hrow, List.pairwise_singleton _ _⟩, trivial⟩
end Go.Proofs.YtmfiiapmkidmkaaDoor
