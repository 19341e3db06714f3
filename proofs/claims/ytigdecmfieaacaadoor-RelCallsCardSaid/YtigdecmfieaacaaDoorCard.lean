/-
  From a contract to a card: how arguments are read, that they read as they did behind a call that leaves all old memory alone, and the table that the rows list.
-/
import Derived.Test.YtigdecmfieaacaaDoorCards
import Derived.Test.YtigdecmfieaacaaDoorTie
import Derived.Test.YtigdecmfieaacaaDoorLives
import Derived.WalkKit
import Derived.ProofKit
import Derived.OpenShut
import Derived.ChangeSlices
import Derived.WideKeyArgs
import Derived.Lib.SmallJoins
import Derived.Deep.DeepHandedRow
import Derived.Lib.LaidTab
namespace Go.Proofs.YtigdecmfieaacaaDoor
open Go Go.ChangeShapes Go.WideShapes Go.ChangeAt Go.RowKit Go.Joins

theorem ownGodebug : ownKnob Tryd.prog.godebug = none := by kernel_rfl
theorem laidOut : laidOutB Tryd.prog = true := by kernel_rfl
theorem gTab : Tryd.prog.globalNamed "math/bits.deBruijn64tab" = some 0 := by kernel_rfl
theorem gTabType : (Tryd.prog.globals[0]?).map (·.type) = some 66 := by kernel_rfl
theorem cellsTab : Tryd.prog.cellsOf 66 = 64 := by kernel_rfl
theorem cellsByte : Tryd.prog.cellsOf 5 = 1 := by kernel_rfl
theorem cellsU : Tryd.prog.cellsOf 37 = 1 := by kernel_rfl
theorem cellsRel : Tryd.prog.cellsOf 26 = 2 := by kernel_rfl
theorem table {W : World} (h : laidMetH Tryd.prog [("math/bits.deBruijn64tab", Rows.laid_math_bits_deBruijn64tab)] W) : Lib.TabIs Tryd.prog W "math/bits.deBruijn64tab" .u8 (Lib.deBruijn64tab.map Int.ofNat) :=
  Lib.tabIs_of_head (rest := []) gTab gTabType Tryd.underlying66 Tryd.underlying5 cellsByte cellsTab h
theorem tab_of {W : World} (h : laidMetH Tryd.prog [("math/bits.deBruijn64tab", Rows.laid_math_bits_deBruijn64tab)] W) : Tab W := by
  have hc := fun j hj => (table h).cell gTab j hj
  refine ⟨?_, fun j hj => by
    rw [hc j (by rw [List.length_map]; exact hj), List.getD_eq_getElem?_getD, List.getElem?_map, List.getD_eq_getElem?_getD]
    cases Lib.deBruijn64tab[j]? <;> rfl⟩
  have h0 := hc 0 (by decide)
  rcases Nat.lt_or_ge 0 W.heap.size with h | h
  · exact h
  · rw [World.cell?, Array.getElem?_eq_none h] at h0; cases h0

section
variable {H : Type} {enc : TypeId × Value → H}
/-- What was read reads so still, behind a call that leaves all that lay there alone. -/
theorem trodAll_stays {W W' : World} {sp : Nat → Bool} : ∀ {ts : List TypeId} {vs : List Value} {ds : List (DataW H)} {ps : List MemPlace}, (ts.all fun t => Tryd.prog.readableRec t && decide (t < Tryd.prog.types.size)) = true →
    DataW.TrodAll enc Tryd.prog W 0 (fun _ => true) true ts vs ds ps → (∀ p ∈ ps, W.sameAt W' p) → (∀ p ∈ ps, sp p.block = true) → DataW.TrodAll enc Tryd.prog W' 0 sp true ts vs ds ps := by
  intro ts
  induction ts with
  | nil =>
    intro vs ds ps _ h _ _
    cases vs with
    | nil => cases ds with
      | nil => exact h
      | cons _ _ => exact h.elim
    | cons _ _ => cases ds <;> exact h.elim
  | cons t ts ih =>
    intro vs ds ps hr h hsame hs
    rw [List.all_cons, Bool.and_eq_true, Bool.and_eq_true, decide_eq_true_iff] at hr
    obtain ⟨v, vs', d, ds', p, p', rfl, rfl, rfl, h0, hr'⟩ := trodAll_cons h
    exact trodAll_cons_mk (WideElems.Trod_stays laidOut hr.1.1 hr.1.2 h0 (fun q hq => hsame q (List.mem_append_left _ hq)) (fun q hq => hs q (List.mem_append_left _ hq)))
      (ih hr.2 hr' (fun q hq => hsame q (List.mem_append_right _ hq)) (fun q hq => hs q (List.mem_append_right _ hq)))
theorem same_of_below {W W' : World} {p : MemPlace} (hb : Below W.heap.size W W') (hp : p.block < W.heap.size) : W.sameAt W' p := by
  cases p with
  | cell b off => exact hb.cell (p := ⟨b, off, none⟩) hp
  | map b => exact hb.block b hp
/-- A law's post: it returned true, and left all that lay there alone. -/
theorem law_post {f : Func} {s : ChangeSpec} {W W' : World} {args : Array Value} {ds gs : List (DataW H)} {before : List MemPlace} (hs : s.vars = [])
    (hr : (f.params.toList.all fun t => Tryd.prog.readableRec t && decide (t < Tryd.prog.types.size)) = true) (hres : f.resultTypes = #[4])
    (hfn : s.fn H ds = { results := [.lit (.bool true)], args := ds })
    (hW : DataW.Whole enc Tryd.prog f.params.toList s.vars false W args.toList ds gs before) (hb : Below W.heap.size W W') :
    s.post enc Tryd.prog f false true false false W args (.bool true) W' := by
  have hlt : ∀ p ∈ before, p.block < W.heap.size := fun p hp => hW.lt p hp
  have hold : ∀ p ∈ before, (fun b => decide (b < W.heap.size)) p.block = true := fun p hp => by simpa using hlt p hp
  have hW' := hW
  obtain ⟨pa, pv, hA, hV, hps, hz, hn⟩ := hW'
  rw [hs] at hV
  obtain ⟨rfl, rfl⟩ := trodVars_none hV
  rw [List.append_nil] at hps
  subst hps
  have hfn' : s.fn H (ds ++ []) = { results := [.lit (.bool true)], args := ds } := by rw [List.append_nil]; exact hfn
  have hargs : ∀ sp : Nat → Bool, (∀ p ∈ before, sp p.block = true) → DataW.TrodAll enc Tryd.prog W' 0 sp true f.params.toList args.toList (s.fn H (ds ++ [])).args before := fun sp hsp => by
    rw [hfn']; exact trodAll_stays hr hA (fun p hp => same_of_below hb (hlt p hp)) hsp
  have hresT : ∀ (b : Nat) (sp : Nat → Bool) (hd : Bool), DataW.TrodAll enc Tryd.prog W' b sp hd f.resultTypes.toList ((Value.bool true).resultList f.resultTypes.size) (s.fn H (ds ++ [])).results [] := fun b sp hd => by
    rw [hfn', hres]; exact trodAll_cons_mk (shut_bool Tryd.underlying4 _) trodAll_mk0
  have hvars : ∀ sp : Nat → Bool, (∀ p ∈ before, sp p.block = true) → DataW.TrodVars enc Tryd.prog W' sp s.vars (s.fn H (ds ++ [])).vars [] := fun sp _ => by
    rw [hfn', hs]; rfl
  refine ⟨ds, [], before, [], before, [], hW, hresT _ _ _, hargs _ hold, hvars _ hold, World.keptBut_mono (fun p hp => ⟨hp, Or.inr (Or.inl hp)⟩) (hb.frame (· ∈ before)), fun _ => ?_⟩
  refine ⟨?_, _, _, ([] ++ before) ++ [], ⟨[] ++ before, [], trodAll_append (hargs _ (fun _ _ => rfl)) (hresT _ _ _), hvars _ (fun _ _ => rfl), rfl, ?_, ?_⟩, ?_⟩
  · exact ok_one hres rfl (okWide_bool_mk Tryd.underlying4 _)
  · intro b off hp
    have hin : MemPlace.cell b off ∈ before := by simpa using hp
    rw [hb.frozen (hlt _ hin)]
    exact hz b off hin
  · intro ha; cases ha
  · intro p hp _; simpa using hp

/-- An argument that is a relation. -/
theorem open_rel {r : Reach} {W : World} {b0 : Nat} {v : Value} {d : DataW H} {p : List MemPlace} (hlt : ∀ q ∈ p, q.block < W.heap.size) (hv : Value.okWide Tryd.prog W r b0 26 v) (h : DataW.Trod enc Tryd.prog W 0 (fun _ => true) true 26 v d p) :
    ∃ a : RA, v = a.val ∧ a.good W ∧ a.rows.length ≤ maxLen := by
  obtain ⟨c0, c1, y0, y1, m, rfl, rfl, rfl, hy0, hy1⟩ := open_agg2 Tryd.underlying26 (by kernel_rfl) cellsRel hv h
  obtain ⟨n, e0, _, _⟩ := DataW.trod_int Tryd.underlying3 hy0
  rcases open_ints Tryd.underlying24 Tryd.underlying37 cellsU hy1 with ⟨e1, _⟩ | ⟨a, len, cap, zs, e1, hb, hl, hm, hz, hx, hcell, hwf⟩
  · simp only [List.cons.injEq, and_true] at e0 e1
    exact ⟨⟨n, none, 0, []⟩, by rw [e0, e1]; rfl, ⟨by simp, Reads.none_⟩, by simp⟩
  · simp only [List.cons.injEq, and_true] at e0 e1
    simp only [if_true] at hz
    have hget : ∀ j, j < len → ∃ x : Nat, zs.getD j 0 = (x : Int) ∧ x < 18446744073709551616 := fun j hj => by
      have := bounds_u64 (hwf (zs.getD j 0) (by rw [List.getD_eq_getElem?_getD, List.getElem?_eq_getElem (by omega)]; exact List.getElem_mem _))
      exact ⟨(zs.getD j 0).toNat, by omega, by omega⟩
    have hlen : ((zs.take len).map Int.toNat).length = len := by simp; omega
    refine ⟨⟨n, some a, cap, (zs.take len).map Int.toNat⟩, by rw [e0, e1, RA.val, hlen], ⟨?_, ?_⟩, by rw [hlen]; omega⟩
    · intro x hx'
      obtain ⟨z, hz', rfl⟩ := List.mem_map.1 hx'
      have := bounds_u64 (hwf z (List.mem_of_mem_take hz'))
      omega
    · rw [hlen]
      refine ⟨by simp; omega, fun hpos => ⟨a, rfl, ?_, fun j u hj => ?_⟩⟩
      · have : MemPlace.cell a.block (a.off + 0) ∈ MemPlace.row a zs.length := MemPlace.mem_row.2 ⟨0, by omega, rfl⟩
        have hin : MemPlace.cell a.block (a.off + 0) ∈ y0.2 ++ y1.2 := by rw [hx]; exact List.mem_append_right _ this
        exact hlt _ hin
      · have hjl : j < len := by
          have := (List.getElem?_eq_some_iff.1 hj).1
          simp at this; omega
        obtain ⟨x, hx1, hx2⟩ := hget j hjl
        have hzj : zs[j]? = some (x : Int) := by
          rw [List.getElem?_eq_getElem (by omega)]
          rw [List.getD_eq_getElem?_getD, List.getElem?_eq_getElem (by omega)] at hx1
          simpa using hx1
        have : u = .int .u64 (x : Int) := by
          rw [List.getElem?_map, List.getElem?_map, List.getElem?_take_of_lt hjl, hzj] at hj
          simpa [U] using hj.symm
        rw [this, hcell j (by omega), hx1]
theorem open_u64 {r : Reach} {W : World} {b0 : Nat} {v : Value} {d : DataW H} {p : List MemPlace} (hv : Value.okWide Tryd.prog W r b0 37 v) (h : DataW.Trod enc Tryd.prog W 0 (fun _ => true) true 37 v d p) :
    ∃ m : Nat, v = .int .u64 m ∧ m < 18446744073709551616 := by
  obtain ⟨n, rfl, _, _, hw⟩ := open_int Tryd.underlying37 hv h
  have := bounds_u64 hw
  exact ⟨n.toNat, by rw [Int.toNat_of_nonneg this.1], by omega⟩
theorem cellsArr : Tryd.prog.cellsOf 28 = 2 := by kernel_rfl
theorem cellsInt : Tryd.prog.cellsOf 3 = 1 := by kernel_rfl
theorem list_of_gets {α : Type} {n : Nat} {p : Nat → α → Prop} (h : ∀ i, i < n → ∃ x, p i x) : ∃ l : List α, l.length = n ∧ ∀ i x, l[i]? = some x → p i x := by
  induction n with
  | zero => exact ⟨[], rfl, by simp⟩
  | succ n ih =>
    obtain ⟨l, hl, hp⟩ := ih (fun i hi => h i (by omega))
    obtain ⟨x, hx⟩ := h n (by omega)
    refine ⟨l ++ [x], by simp [hl], fun i y hy => ?_⟩
    rcases Nat.lt_or_ge i l.length with hi | hi
    · exact hp i y (by rwa [List.getElem?_append_left hi] at hy)
    · rw [List.getElem?_append_right hi] at hy
      have : i = n := by
        have := (List.getElem?_eq_some_iff.1 hy).1
        simp at this; omega
      subst this
      rw [hl, Nat.sub_self] at hy
      obtain rfl : x = y := by simpa using hy
      exact hx
/-- An argument that is a list of pairs. -/
theorem open_prs {r : Reach} {W : World} {b0 : Nat} {v : Value} {d : DataW H} {p : List MemPlace} (hlt : ∀ q ∈ p, q.block < W.heap.size) (hv : Value.okWide Tryd.prog W r b0 34 v) (h : DataW.Trod enc Tryd.prog W 0 (fun _ => true) true 34 v d p) :
    ∃ (A : Option Addr) (cap : Nat) (l : List (Int × Int)), v = .slice A l.length cap ∧ Reads W W.heap.size 2 A l.length (prs l) := by
  obtain ⟨A, len, cap, rfl⟩ := okWide_slice Tryd.underlying34 hv
  obtain ⟨fuel, hf⟩ := h
  rcases DataW.trod_slice Tryd.underlying34 hf with ⟨e1, _⟩ | ⟨a, len', cap', elems, rest, n, _, e1, hx, hb, hl, hm, hlen, hel, _, _⟩
  · simp only [Value.cells, List.cons.injEq, and_true] at e1
    injection e1 with e2 e3 e4
    subst e2 e3 e4
    exact ⟨none, 0, [], rfl, Reads.none_⟩
  · simp only [Value.cells, List.cons.injEq, and_true] at e1
    injection e1 with e2 e3 e4
    subst e2 e3 e4
    have key : ∀ i, i < len → ∃ x : Int × Int, W.cell? (a.add (i * 2)) = some (.int .i64 x.1) ∧ W.cell? (a.add (i * 2 + 1)) = some (.int .i64 x.2) := by
      intro i hi
      have h1 := hel i hi
      rw [cellsArr, List.getElem?_eq_getElem (by omega)] at h1
      obtain ⟨cs, hcs, hy⟩ := Option.bind_eq_some_iff.1 h1
      obtain ⟨_, hcl, hcc⟩ := World.cells?_some hcs
      obtain ⟨xs, m, _, _, _, hxl, hxs⟩ := DataW.trod_array Tryd.underlying28 hy
      have g0 := hxs 0 (by decide)
      have g1 := hxs 1 (by decide)
      rw [cellsInt, List.getElem?_eq_getElem (by omega)] at g0 g1
      obtain ⟨x0, q0, _, _⟩ := DataW.trod_int Tryd.underlying3 g0
      obtain ⟨x1, q1, _, _⟩ := DataW.trod_int Tryd.underlying3 g1
      refine ⟨(x0, x1), ?_, ?_⟩
      · have := hcc 0 (by omega)
        rw [add_of_add] at this
        rw [show i * 2 + 0 = i * 2 from rfl] at this
        rw [this]
        match cs, hcl, q0 with
        | [c0, c1], _, q0 => simpa using q0
      · have := hcc 1 (by omega)
        rw [add_of_add] at this
        rw [this]
        match cs, hcl, q1 with
        | [c0, c1], _, q1 => simpa using q1
    obtain ⟨l, hll, hp⟩ := list_of_gets key
    refine ⟨some a, cap, l, by rw [hll], prs_length l, fun hpos => ⟨a, rfl, ?_, fun j u hj => ?_⟩⟩
    · have : MemPlace.cell a.block (a.off + 0) ∈ MemPlace.row a ((elems.length + rest.length) * Tryd.prog.cellsOf 28) := MemPlace.mem_row.2 ⟨0, by rw [cellsArr]; omega, rfl⟩
      refine hlt (.cell a.block (a.off + 0)) ?_
      simp only [Prod.mk.injEq] at hx
      rw [hx.2]
      exact List.mem_append_left _ this
    · have hjl : j < l.length * 2 := by
        have := (List.getElem?_eq_some_iff.1 hj).1
        rwa [prs_length] at this
      obtain ⟨k, hk⟩ : ∃ k, k = j / 2 := ⟨_, rfl⟩
      have hkl : k < l.length := by omega
      obtain ⟨x, hx'⟩ : ∃ x, l[k]? = some x := ⟨_, List.getElem?_eq_getElem hkl⟩
      obtain ⟨c0, c1⟩ := hp k x hx'
      obtain ⟨r0, r1⟩ := prs_get l k x hx'
      rcases Nat.mod_two_eq_zero_or_one j with hm2 | hm2
      · have : j = k * 2 := by omega
        subst this
        rw [r0] at hj
        obtain rfl : I x.1 = u := by simpa using hj
        exact c0
      · have : j = k * 2 + 1 := by omega
        subst this
        rw [r1] at hj
        obtain rfl : I x.2 = u := by simpa using hj
        exact c1
end

/-- A world for the witnesses: the table holds what its text lays. -/
noncomputable def laidWorld (os : Os) (vals : Array Value) : World :=
  { World.holding Tryd.prog os ⟨#[], vals, []⟩ with heap := (World.holding Tryd.prog os ⟨#[], vals, []⟩).heap.modify 0 fun
      | .cells _ t frozen => .cells (Lib.deBruijn64tab.map fun z => .int .u8 (Int.ofNat z)).toArray t frozen
      | o => o }
end Go.Proofs.YtigdecmfieaacaaDoor
