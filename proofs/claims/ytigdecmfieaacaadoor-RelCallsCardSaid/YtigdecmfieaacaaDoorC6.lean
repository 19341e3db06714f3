/-
  Package rel: Only; the calls of RelCalls, as the engine takes them.
-/
import Derived.Test.YtigdecmfieaacaaDoorC1
import Derived.OrdersIn
import Derived.OwnWalkIn
import Derived.Test.YtigdecmfieaacaaDoorC5
namespace Go.Proofs.YtigdecmfieaacaaDoor
open Go Go.RowKit

section
variable {F : Fence} {n : Nat} {P : Program} {ops : Array Oper} {Q : Exit → Act → World → Prop}
/-- What operation i owes. -/
def OwesI (F : Fence) (n : Nat) (P : Program) (ops : Array Oper) (Q : Exit → Act → World → Prop) (T : Nat → (Nat → Value) → World → Prop) (G : (Nat → Bool) → World → Prop) (L : Nat → Bool) (i : Nat) (o : Oper) (a : Act) (w : World) : Prop :=
  ∀ K : Act → World → Prop, (∀ v w', T i (fun j => if j = i then v else vat ops a j) w' → G (fun j => decide (j = i) || L j) w' → (∀ j, j ≠ i → L j = true → T j (vat ops a) w → T j (vat ops a) w') → K (a.put o.dst v) w') →
    if Region.wanted o (yielded ops a.tmps) = true then o.wpIn F n P a w K Q else (∀ f, o.about P w a.eval = some f → F.fn f) ∧ K (a.put o.dst undef) w

variable {T : Nat → (Nat → Value) → World → Prop} {G : (Nat → Bool) → World → Prop} {a0 : Act}
theorem wpAny_invI {D : Nat → List Nat} (hwf : wfR ops a0.tmps.size = true) (hD : Deps ops T D)
    (hnb : ∀ (i : Nat) (o : Oper), ops[i]? = some o → ∀ e ∈ o.after, Region.binds .any e = true)
    (step : ∀ (i : Nat) (o : Oper) (a : Act) (w : World) (L : Nat → Bool), ops[i]? = some o → L i = false → (∀ e ∈ o.after, L e.on = true) → StW ops T G a0 L a w → OwesI F n P ops Q T G L i o a w)
    (fin : ∀ L a w, (∀ i, i < ops.size → L i = true) → StW ops T G a0 L a w → Q .normal a w) :
    ∀ (fuel : Nat) (listed : Array Bool) (a : Act) (w : World), listed.size = ops.size → leftN listed ≤ fuel → StW ops T G a0 (fun i => listed.getD i false) a w → wpAnyIn F n P .any ops Q fuel listed a w := by
  intro fuel
  induction fuel with
  | zero =>
    intro listed a w hs hl st
    have hall : ∀ i, i < ops.size → listed.getD i false = true := fun i hi => left_zero (by omega) (by omega)
    refine ⟨?_, fin _ a w hall st⟩
    unfold Region.ready
    rw [List.filter_eq_nil_iff]
    intro i hi
    have hi' : i < ops.size := by simpa using hi
    have h1 := hall i hi'
    have hlt : i < listed.size := by omega
    have : listed.getD i true = true := by simp [hlt] at h1 ⊢; exact h1
    rw [this]; simp
  | succ fuel ih =>
    intro listed a w hs hl st
    refine ⟨fun h => fin _ a w (ready_nil hwf hs h) st, fun i hi => ?_⟩
    unfold Region.ready at hi
    rw [List.mem_filter] at hi
    have hi' : i < ops.size := by simpa using hi.1
    have ho : ops[i]? = some ops[i] := Array.getElem?_eq_getElem hi'
    have hlt : i < listed.size := by omega
    rw [ho] at hi
    simp only [Option.map_some, Option.getD_some, Bool.and_eq_true, Bool.not_eq_true'] at hi
    have hf : listed.getD i false = false := by
      have := hi.2.1
      simp [hlt] at this ⊢; exact this
    have haft : ∀ e ∈ (ops[i]).after, listed.getD e.on false = true := fun e he => by
      have := (Array.all_eq_true'.1 hi.2.2) e he
      rw [hnb i _ ho e he] at this
      simpa using this
    have key := step i _ a w (fun i => listed.getD i false) ho hf haft st (wpAnyIn F n P .any ops Q fuel (listed.setIfInBounds i true)) (fun v w' h1 h2 h3 => by
      have st' := st.next hwf hD ho hf haft h1 h2 h3
      refine ih _ _ _ (by simp [hs]) (by have := leftN_set hlt hf; omega) ?_
      rw [show (fun j => (listed.setIfInBounds i true).getD j false) = fun j => decide (j = i) || listed.getD j false from funext fun j => setB_get hlt]
      exact st')
    unfold wpOpIn
    rw [ho]
    show if Region.wanted ops[i] (yielded ops a.tmps) = true then _ else _
    split
    · rename_i hw; rw [if_pos hw] at key; exact key
    · rename_i hw; rw [if_neg hw] at key; exact key
theorem region_allI {id : Nat} {w0 : World} {D : Nat → List Nat} (hm : P.follows .mixedOrders = true) (hwf : wfR ops a0.tmps.size = true) (hb : bindsAll ops = true) (hD : Deps ops T D) (hG : G (fun _ => false) w0.drew)
    (step : ∀ (i : Nat) (o : Oper) (a : Act) (w : World) (L : Nat → Bool), ops[i]? = some o → L i = false → (∀ e ∈ o.after, L e.on = true) → StW ops T G a0 L a w → OwesI F n P ops Q T G L i o a w)
    (fin : ∀ L a w, (∀ i, i < ops.size → L i = true) → StW ops T G a0 L a w → Q .normal a w) : (Code.region id ops true).wpIn F n P Q a0 w0 := by
  refine wpIn_region_any hm ?_
  have hb' : ∀ (i : Nat) (o : Oper), ops[i]? = some o → ∀ e ∈ o.after, Region.binds .any e = true := fun i o ho e he => by
    have h1 := (Array.all_eq_true'.1 hb) o (Array.mem_of_getElem? ho)
    exact (Array.all_eq_true'.1 h1) e he
  have hz : ∀ i, (Array.replicate ops.size false).getD i false = false := fun i => by
    rw [Array.getD_eq_getD_getElem?]
    cases h : (Array.replicate ops.size false)[i]? with
    | none => rfl
    | some b =>
      obtain ⟨h1, h2⟩ := Array.getElem?_eq_some_iff.1 h
      simpa using h2.symm
  refine wpAny_invI hwf hD hb' step fin ops.size _ a0 _ (by simp) ?_ ⟨by rw [show (fun i => (Array.replicate ops.size false).getD i false) = fun _ => false from funext hz]; exact hG, rfl, rfl, fun _ _ => rfl, fun i o _ h => ?_, fun i h => ?_, fun i h => ?_⟩
  · unfold leftN
    exact Nat.le_trans (List.length_filter_le _ _) (by simp)
  · rw [hz] at h; cases h
  · rw [hz] at h; cases h
  · rw [hz] at h; cases h
end
section
variable {F : Fence} {n : Nat} {P : Program} {ops : Array Oper} {Q : Exit → Act → World → Prop} {vs : List (Option Value)} {a0 : Act} {W1 W2 : World} {L : Nat → Bool} {i s : Nat} {o : Oper} {a : Act} {w : World}
theorem run_moveV {x : Operand} {v : Value} (hop : o.op = .move x) (hx : a.eval x = v) : (execOp a.eval o).run P w = .ok (.value v) w := (run_move hop).trans (by rw [hx])
theorem payI {v : Value} (st : StW ops (TV vs) (GS s W1 W2) a0 L a w) (h : lastOk ops s = true) (hL : L i = false) (hi : i < s) (hw : Region.wanted o (yielded ops a.tmps) = true) (hd : ∀ c, o.op ≠ .defer c) (ha : ∀ w ρ, o.about P w ρ = none) (hrun : (execOp a.eval o).run P W1 = .ok (.value v) W1) (hv : vs.getD i none = some v) : OwesI F n P ops Q (TV vs) (GS s W1 W2) L i o a w := fun K hK => by
  have hf := st.first h hL (Nat.le_of_lt hi)
  obtain rfl : w = W1 := st.at1 h hL (Nat.le_of_lt hi)
  rw [if_pos hw]
  refine ⟨fun f e => (by rw [ha] at e; cases e), ?_⟩
  rw [Oper.semAt_plain F _ _ hd, hrun]
  refine hK v w (TV.self hv) ?_ (fun _ _ _ h => h)
  unfold GS
  have : s ≠ i := by omega
  simp [hf, this]
theorem storeI (st : StW ops (TV vs) (GS i W1 W2) a0 L a w) (h : lastOk ops i = true) (hL : L i = false) (hw : Region.wanted o (yielded ops a.tmps) = true) (hd : ∀ c, o.op ≠ .defer c) (ha : ∀ w ρ, o.about P w ρ = none) (hrun : (execOp a.eval o).run P W1 = .ok .skip W2) (hv : vs.getD i none = none) : OwesI F n P ops Q (TV vs) (GS i W1 W2) L i o a w := fun K hK => by
  obtain rfl : w = W1 := st.at1 h hL (Nat.le_refl _)
  rw [if_pos hw]
  refine ⟨fun f e => (by rw [ha] at e; cases e), ?_⟩
  rw [Oper.semAt_plain F _ _ hd, hrun]
  refine hK undef W2 (TV.none hv) ?_ (fun _ _ _ h => h)
  unfold GS
  simp
theorem region_i {id m : Nat} (vs : List (Option Value)) (s : Nat) (w0 W2 : World) (hm : P.follows .mixedOrders = true) (hwf : wfR ops a0.tmps.size = true) (hb : bindsAll ops = true) (hd : okV ops vs = true) (hl : vs.length = ops.size) (hn : ops.size = m)
    (steps : AllS m fun i => ∀ (o : Oper) (a : Act) (w : World) (L : Nat → Bool), ops[i]? = some o → L i = false → (∀ e ∈ o.after, L e.on = true) → StW ops (TV vs) (GS s w0.drew W2) a0 L a w → OwesI F n P ops Q (TV vs) (GS s w0.drew W2) L i o a w)
    (fin : ∀ L a w, (∀ i, i < m → L i = true) → StW ops (TV vs) (GS s w0.drew W2) a0 L a w → Q .normal a w) : (Code.region id ops true).wpIn F n P Q a0 w0 := by
  subst hn
  exact region_allI (G := GS s w0.drew W2) hm hwf hb (tv_deps hd hl) (by unfold GS; simp) (fun i o a w L ho => steps.at i (Array.getElem?_eq_some_iff.1 ho).1 o a w L ho) fin
end
end Go.Proofs.YtigdecmfieaacaaDoor
namespace Go.Proofs.YtigdecmfieaacaaDoor
open Go Go.RowKit Go.Shelf
attribute [local go_sem] Oper.semAt_some

/-- The rows of the part from the things of m to those of t. -/
def onlyR (rows : List Nat) (m t : Nat) : List Nat := (List.range rows.length).map fun i => if m.testBit i = true then rows.getD i 0 &&& t else 0
def onlyF (rows : List Nat) (t : Nat) {m : Nat} (pre : List (BitOf m)) (i : Nat) : Nat := if pre.any (fun y => y.1 == i) = true then rows.getD i 0 &&& t else 0
theorem onlyF_snoc (rows : List Nat) (t : Nat) {m : Nat} (pre : List (BitOf m)) (x : BitOf m) (i : Nat) : onlyF rows t (pre ++ [x]) i = if i = x.1 then rows.getD x.1 0 &&& t else onlyF rows t pre i := by
  unfold onlyF
  by_cases h : i = x.1
  · subst h; simp [List.any_append]
  · have h' : (x.1 == i) = false := by simp; omega
    simp [List.any_append, h', h]
theorem onlyF_all (rows : List Nat) (t m : Nat) (hm : m < 18446744073709551616) : (List.range rows.length).map (onlyF rows t (bitsOf m)) = onlyR rows m t := by
  refine List.map_congr_left fun i _ => ?_
  unfold onlyF
  congr 1
  simp only [eq_iff_iff]
  rw [List.any_eq_true]
  constructor
  · rintro ⟨y, _, hy⟩
    rw [← (show y.1 = i by simpa using hy)]; exact y.2.1
  · intro h
    have h64 : i < 64 := by
      rcases Nat.lt_or_ge i 64 with h' | h'
      · exact h'
      · rw [Nat.testBit_lt_two_pow (Nat.lt_of_lt_of_le hm (Nat.pow_le_pow_right (n := 2) (by decide) h'))] at h; cases h
    exact ⟨⟨i, h, h64⟩, mem_bitsOf i ⟨h, h64⟩, by simp⟩
theorem onlyF_nil (rows : List Nat) (t m : Nat) : (List.range rows.length).map (onlyF rows t ([] : List (BitOf m))) = List.replicate rows.length 0 := by
  apply List.ext_getElem <;> simp [onlyF]
theorem res_relK {fn : Func} {tmps : Array Value} {W : World} {b k : Nat} {v0 v1 : Value} (hf : fn.results = #[.cell k 26]) (hp : tmps[k]? = some (.pointer (some ⟨b, 0, none⟩)))
    (hrow : RowT W b 26 [v0, v1]) : (results fn tmps).run Tryd.prog W = .ok (.agg #[v0, v1]) W := by
  have h0 : W.cell? ⟨b, 0, none⟩ = some v0 := hrow.cell 0
  have h1 : W.cell? ⟨b, 1, none⟩ = some v1 := hrow.cell 1
  simp [results, hf, go_sem, hp, h0, h1]
theorem step_only {w W : World} {rows : List Nat} {rv s3 : List Value} {b2 g t y : Nat} {m : Nat} {pre : List (BitOf m)} {x : BitOf m} (hg : w.heap.size + 1 < g) (hge : w.heap.size ≤ g) (hy : rows.getD x.1 0 = y)
    (d0 : RowT W w.heap.size 26 rv) (d1 : RowT W (w.heap.size + 1) 37 [.int .u64 t]) (d2 : RowT W (w.heap.size + 1 + 1) 26 [.int .i64 0, .slice none 0 0]) (d3 : RowT W b2 26 s3) (d4 : RowT W g 37 (((List.range rows.length).map (onlyF rows t pre)).map U)) (hB : Below w.heap.size w W) :
    KeepsOthers W (W.drew.setCell ((⟨g, 0, none⟩ : Addr).add x.1) (.int .u64 ((y &&& t : Nat) : Int))) ∧ Below w.heap.size W (W.drew.setCell ((⟨g, 0, none⟩ : Addr).add x.1) (.int .u64 ((y &&& t : Nat) : Int))) ∧
    RowT (W.drew.setCell ((⟨g, 0, none⟩ : Addr).add x.1) (.int .u64 ((y &&& t : Nat) : Int))) w.heap.size 26 rv ∧ RowT (W.drew.setCell ((⟨g, 0, none⟩ : Addr).add x.1) (.int .u64 ((y &&& t : Nat) : Int))) (w.heap.size + 1) 37 [.int .u64 t] ∧
    RowT (W.drew.setCell ((⟨g, 0, none⟩ : Addr).add x.1) (.int .u64 ((y &&& t : Nat) : Int))) (w.heap.size + 1 + 1) 26 [.int .i64 0, .slice none 0 0] ∧ RowT (W.drew.setCell ((⟨g, 0, none⟩ : Addr).add x.1) (.int .u64 ((y &&& t : Nat) : Int))) b2 26 s3 ∧
    RowT (W.drew.setCell ((⟨g, 0, none⟩ : Addr).add x.1) (.int .u64 ((y &&& t : Nat) : Int))) g 37 (((List.range rows.length).map (onlyF rows t (pre ++ [x]))).map U) ∧ Below w.heap.size w (W.drew.setCell ((⟨g, 0, none⟩ : Addr).add x.1) (.int .u64 ((y &&& t : Nat) : Int))) := by
  rw [add0]
  have hne : w.heap.size + 1 ≠ g := by omega
  refine ⟨(KeepsOthers.drew _).trans (KeepsOthers.setCell _ _ _), ((Below.refl _ _).drew).setCell (p := ⟨g, x.1, none⟩) hge _, d0.drew.keep (i := x.1) d4.drew (by decide) _, d1.drew.far (p := ⟨g, x.1, none⟩) hne _, d2.drew.keep (i := x.1) d4.drew (by decide) _, d3.drew.keep (i := x.1) d4.drew (by decide) _, row_set d4.drew (fun i => ?_), hB.drew.setCell (p := ⟨g, x.1, none⟩) hge _⟩
  rw [onlyF_snoc, hy]
set_option maxRecDepth 100000 in
set_option maxHeartbeats 4000000 in
theorem only_ok (a : RA) (f t : Nat) (w : World) (hT : Tab w) (hg : a.good w) (hok : a.ok = true) (hf : f < 18446744073709551616) (ht : t < 18446744073709551616) :
    Calls Tryd.prog 45 #[a.val, .int .u64 f, .int .u64 t] w (RetQ w fun v w' => NewR w.heap.size (onlyR a.rows (f &&& (2 ^ a.rows.length - 1)) t) v w') := by
  obtain ⟨n, A, cap, rows⟩ := a
  have hlen : (rows.length : Int) = n ∧ rows.length ≤ 64 := by
    have h := hok
    simp only [RA.ok, okR, Bool.and_eq_true, decide_eq_true_eq] at h
    exact ⟨h.1.2, by omega⟩
  obtain ⟨rfl, h64⟩ := hlen
  obtain ⟨N, hN⟩ : ∃ N, rows.length = N := ⟨_, rfl⟩
  have HU := Lib.hid hg.1
  have HR := Lib.hid hg.2
  have HO : Hid (okR rows.length rows = true) := Lib.hid hok
  have HT := Lib.hid hT
  have HTU := Lib.hid ht
  have hAll : ∀ w, Calls Tryd.prog 52 #[.int .i64 rows.length] w (Ret w (.int .u64 ((2 ^ rows.length - 1 : Nat) : Int))) := fun w => all_any _ w h64
  have HAll := Lib.hid hAll
  obtain ⟨K, hK⟩ : ∃ K, f &&& (2 ^ rows.length - 1) = K := ⟨_, rfl⟩
  have hKl : K < 2 ^ rows.length := by rw [← hK]; exact and_mask_lt _ _
  have hKu : K < 18446744073709551616 := Nat.lt_of_lt_of_le hKl (pow_le_64 _ h64)
  have hand : bits .and .u64 (f : Int) ((2 ^ rows.length - 1 : Nat) : Int) = (K : Int) := by
    rw [u64_and_nat _ _ hf (by have := pow_le_64 _ h64; have := Nat.two_pow_pos rows.length; omega), hK]
  have HKU := Lib.hid hKu
  have HKB : Hid (∀ j, K.testBit j = true → j < rows.length) := Lib.hid (fun j hj => by
    rcases Nat.lt_or_ge j rows.length with h' | h'
    · exact h'
    · rw [Nat.testBit_lt_two_pow (Nat.lt_of_lt_of_le hKl (Nat.pow_le_pow_right (by decide) h'))] at hj; cases hj)
  obtain ⟨M, hMM⟩ : ∃ M : Nat, 2 ^ rows.length - 1 = M := ⟨_, rfl⟩
  show Calls Tryd.prog 45 #[.agg #[.int .i64 rows.length, .slice A rows.length cap], .int .u64 f, .int .u64 t] w (RetQ w fun v w' => NewR w.heap.size (onlyR rows (f &&& (2 ^ rows.length - 1)) t) v w')
  rw [hK]
  have HN := Lib.hid (fun w => none_ok rows.length w h64)
  rw [hMM] at HAll hand
  clear hg hok hT ht hf hAll hK hKl hKu hMM hN
  refine (callsIn_wide (n := 5)).1 ?_
  refine callsIn_of_wp_marks Tryd.func45 rfl trivial ?_ rfl
  simp only [Tryd.ntmps45, List.size_toArray, List.length_cons, List.length_nil, Nat.reduceAdd, Nat.reduceSub, Array.replicate_succ, Array.replicate_zero, List.push_toArray, List.append_toArray, List.nil_append, List.cons_append]
  gi_wp2_with (refine ⟨trivial, ?_⟩; first | (gi_at_call 16; go_loud (refine (callsIn_wide.2 (check_ok HU.out (HR.out.into (below_three _ _ _ _)) HO.out)).mono ?_); go_loud (rintro e w1 ⟨rfl, hb⟩); go_loud (obtain ⟨hz0, hz1, hz2⟩ := size_three hb); go_loud (have hBc := (below_three w _ _ _).next hb); obtain ⟨hz0, hz1, hz2⟩ := size_three hb; have x0 := (((RowT.new w 26 [.int .i64 rows.length, .slice A rows.length cap]).alloc _).alloc _).below hb (by simp only [World.size_alloc]; omega); obtain ⟨a0, a1, a2, a3⟩ := x0.two; have hBc := (below_three w _ _ _).next hb) | (gi_at_call 13; refine (callsIn_wide.2 (HN.out _)).mono ?_; rintro e w2 ⟨v, rfl, ⟨g, rfl, hg, hrow⟩, hb2⟩; replace x0 := x0.below hb2 x0.lt; obtain ⟨a0, a1, a2, a3⟩ := x0.two; replace hBc := hBc.next hb2; have hy0 := x0.lt) | (gi_at_call 52; refine (callsIn_wide.2 (HAll.out _)).mono ?_; rintro e w3 ⟨rfl, hb3⟩; have hs3 := hb3.size) | (gi_at_call 55; refine (callsIn_wide.2 (things_any K _)).mono ?_; rintro e w' ⟨rfl, rfl⟩))
  have sz1 : w.heap.size + 1 + 1 < w1.heap.size := hz2
  have sz2 := hb2.size
  have sz3 : w2.heap.size < w3.heap.size := by simp only [World.size_alloc] at hs3; omega
  have hgl := hrow.lt
  have y1 := ((RowT.new (w.alloc (.cells #[.int .i64 rows.length, .slice A rows.length cap] 26)) 37 [.int .u64 t]).alloc (.cells #[.int .i64 0, .slice none 0 0] 26)).below hb (by simp only [World.size_alloc]; omega)
  have y2 := (RowT.new ((w.alloc (.cells #[.int .i64 rows.length, .slice A rows.length cap] 26)).alloc (.cells #[.int .u64 t] 37)) 26 [.int .i64 0, .slice none 0 0]).below hb (by simp only [World.size_alloc]; omega)
  simp only [World.size_alloc] at y1 y2
  have e0 := (((x0.alloc (.cells #[.int .i64 rows.length, .slice (some ⟨g, 0, none⟩) rows.length rows.length] 26)).below hb3 (by simp only [World.size_alloc]; omega)).alloc (.cells #[.int .u64 K] 37))
  have e1 := ((((y1.below hb2 y1.lt).alloc (.cells #[.int .i64 rows.length, .slice (some ⟨g, 0, none⟩) rows.length rows.length] 26)).below hb3 (by simp only [World.size_alloc]; omega)).alloc (.cells #[.int .u64 K] 37))
  have e2 := ((((y2.below hb2 y2.lt).alloc (.cells #[.int .i64 rows.length, .slice (some ⟨g, 0, none⟩) rows.length rows.length] 26)).below hb3 (by simp only [World.size_alloc]; omega)).alloc (.cells #[.int .u64 K] 37))
  have e3 := ((RowT.new w2 26 [.int .i64 rows.length, .slice (some ⟨g, 0, none⟩) rows.length rows.length]).below hb3 (by simp)).alloc (.cells #[.int .u64 K] 37)
  have e4 := ((hrow.alloc (.cells #[.int .i64 rows.length, .slice (some ⟨g, 0, none⟩) rows.length rows.length] 26)).below hb3 (by simp only [World.size_alloc]; omega)).alloc (.cells #[.int .u64 K] 37)
  have eM := RowT.new w3 37 [.int .u64 K]
  have hBW := (hBc.al.next hb3).al (o := .cells #[.int .u64 K] 37)
  have hW1 := hBc.size
  rw [← onlyF_nil rows t K] at e4
  refine wpIn_rangeFunc_ownF rfl (by omega) (gf := 57) (lb := #[.pointer (some ⟨w3.heap.size, 0, none⟩)]) rfl trivial (enters_of Tryd.func57 (by kernel_rfl) rfl)
    (things_stops (5 - 1) w3.heap.size w.heap.size K (by omega) HKU.out HT.out.1 _ (HT.out.on hBW) (by simp) eM.one.1) belowK_t (belowK_b (by simp only [World.size_alloc]; omega)) (Below.refl _ _) (fun _ => rfl)
    (fun pre W => RowT W w.heap.size 26 [.int .i64 rows.length, .slice A rows.length cap] ∧ RowT W (w.heap.size + 1) 37 [.int .u64 t] ∧ RowT W (w.heap.size + 1 + 1) 26 [.int .i64 0, .slice none 0 0] ∧ RowT W w2.heap.size 26 [.int .i64 rows.length, .slice (some ⟨g, 0, none⟩) rows.length rows.length] ∧
      RowT W g 37 (((List.range rows.length).map (onlyF rows t pre)).map U) ∧ Below w.heap.size w W)
    (fun _ _ _ => False)
    (OwnFrom.and (RowT.ownFrom _ _ _ (fun _ => _)) (OwnFrom.and (RowT.ownFrom _ _ _ (fun _ => _)) (OwnFrom.and (RowT.ownFrom _ _ _ (fun _ => _)) (OwnFrom.and (RowT.ownFrom _ _ _ (fun _ => _)) (OwnFrom.and (RowT.ownFrom _ _ _ (fun pre => ((List.range rows.length).map (onlyF rows t pre)).map U)) (ownFrom_below (Nat.le_refl _) (by simp only [World.size_alloc]; omega)))))))
    (fun _ _ _ _ _ hs _ _ => hs)
    ⟨e0, e1, e2, e3, e4, hBW⟩
    (fun x => { tmps := #[.agg #[.int .i64 rows.length, .slice A rows.length cap], .int .u64 f, .int .u64 t, .pointer (some ⟨w.heap.size, 0, none⟩), undef, .pointer (some ⟨w.heap.size + 1, 0, none⟩), .pointer (some ⟨w.heap.size + 1 + 1, 0, none⟩), .pointer (some ⟨w2.heap.size, 0, none⟩), .int .i64 (x.1 : Nat), .agg #[.int .i64 rows.length, .slice A rows.length cap], .int .i64 0, .bool false, undef, .pointer (some ⟨w.heap.size, 0, none⟩), .int .i64 rows.length, .agg #[.int .i64 rows.length, .slice (some ⟨g, 0, none⟩) rows.length rows.length], .int .u64 f, .pointer (some ⟨w.heap.size, 0, none⟩), .int .i64 rows.length, .int .u64 M, .int .u64 K, .func (.func 57) #[] #[.pointer (some ⟨w3.heap.size, 0, none⟩)], .int .i64 (x.1 : Nat), undef, undef, undef, undef, undef, undef, undef, undef, undef, undef, undef, undef], defers := [] }) ?assign ?body ?done ?stop
  case assign =>
    intro l x W K' hK
    gi_wp2
    exact hK
  case body =>
    rintro l pre x W ⟨d0, d1, d2, d3, d4, hB⟩ _
    clear x0 y1 y2 e0 e1 e2 e3 e4 eM a0 a1 a2 a3 hand
    have hxl : x.1 < rows.length := HKB.out x.1 x.2.1
    obtain ⟨ad, y, hA, hbk, hy, hcy⟩ := (HR.out.below hB).u hxl
    subst hA
    have hyu := HU.out y (List.mem_of_getElem? hy)
    have HY := Lib.hid hy
    clear hy
    -- GENBODY
    gi_wp2
    refine region_i (m := 12) [some (.pointer (some ⟨w2.heap.size, 1, none⟩)), some (.slice (some ⟨g, 0, none⟩) rows.length rows.length), some (.int .i64 (((x.1 : Nat) : Nat) : Int)), some (.pointer (some ⟨w.heap.size, 1, none⟩)), some (.slice (some ad) rows.length cap), some (.int .i64 (((x.1 : Nat) : Nat) : Int)), some (.pointer (some (ad.add (x.1 : Nat)))), some (.int .u64 ((y : Nat) : Int)), some (.int .u64 ((t : Nat) : Int)), some (.int .u64 (((y &&& t) : Nat) : Int)), some (.pointer (some ((⟨g, 0, none⟩ : Addr).add (x.1 : Nat)))), none] 11 W (W.drew.setCell ((⟨g, 0, none⟩ : Addr).add (x.1 : Nat)) (.int .u64 (((y &&& t) : Nat) : Int))) (by kernel_rfl) (by kernel_rfl) (by kernel_rfl) (by kernel_rfl) (by kernel_rfl) (by kernel_rfl) ?_ fun L aZ wZ hL st => ?_
    · refine ⟨⟨⟨⟨⟨⟨⟨⟨⟨⟨⟨⟨trivial, ?_⟩, ?_⟩, ?_⟩, ?_⟩, ?_⟩, ?_⟩, ?_⟩, ?_⟩, ?_⟩, ?_⟩, ?_⟩, ?_⟩
      · intro oo aa ww LL hho hLL haft st; obtain rfl := Option.some.inj hho; exact payI st (by kernel_rfl) hLL (by decide) (want_none rfl) (fun c h => by cases h) (fun _ _ => rfl) (run_fp1 rfl (st.outV (by kernel_rfl) rfl)) rfl
      · intro oo aa ww LL hho hLL haft st; obtain rfl := Option.some.inj hho; exact payI st (by kernel_rfl) hLL (by decide) (want_none rfl) (fun c h => by cases h) (fun _ _ => rfl) (run_ldS rfl (st.argV (j := 0) (aft_of haft (by kernel_rfl)) rfl rfl) (d3.cell 1)) rfl
      · intro oo aa ww LL hho hLL haft st; obtain rfl := Option.some.inj hho; exact payI st (by kernel_rfl) hLL (by decide) (want_none rfl) (fun c h => by cases h) (fun _ _ => rfl) (run_moveV rfl (st.outV (by kernel_rfl) rfl)) rfl
      · intro oo aa ww LL hho hLL haft st; obtain rfl := Option.some.inj hho; exact payI st (by kernel_rfl) hLL (by decide) (want_none rfl) (fun c h => by cases h) (fun _ _ => rfl) (run_fp1 rfl (st.outV (by kernel_rfl) rfl)) rfl
      · intro oo aa ww LL hho hLL haft st; obtain rfl := Option.some.inj hho; exact payI st (by kernel_rfl) hLL (by decide) (want_none rfl) (fun c h => by cases h) (fun _ _ => rfl) (run_ldS rfl (st.argV (j := 3) (aft_of haft (by kernel_rfl)) rfl rfl) (d0.cell 1)) rfl
      · intro oo aa ww LL hho hLL haft st; obtain rfl := Option.some.inj hho; exact payI st (by kernel_rfl) hLL (by decide) (want_none rfl) (fun c h => by cases h) (fun _ _ => rfl) (run_moveV rfl (st.outV (by kernel_rfl) rfl)) rfl
      · intro oo aa ww LL hho hLL haft st; obtain rfl := Option.some.inj hho; exact payI st (by kernel_rfl) hLL (by decide) (want_none rfl) (fun c h => by cases h) (fun _ _ => rfl) (run_ixU (k := (x.1 : Nat)) rfl (st.argV (j := 4) (aft_of haft (by kernel_rfl)) rfl rfl) (st.argV (j := 5) (aft_of haft (by kernel_rfl)) rfl rfl) hxl) rfl
      · intro oo aa ww LL hho hLL haft st; obtain rfl := Option.some.inj hho; exact payI st (by kernel_rfl) hLL (by decide) (want_none rfl) (fun c h => by cases h) (fun _ _ => rfl) (run_ldU rfl (st.argV (j := 6) (aft_of haft (by kernel_rfl)) rfl rfl) hcy) rfl
      · intro oo aa ww LL hho hLL haft st; obtain rfl := Option.some.inj hho; exact payI st (by kernel_rfl) hLL (by decide) (want_none rfl) (fun c h => by cases h) (fun _ _ => rfl) (run_ldU rfl (st.outV (by kernel_rfl) rfl) (d1.cell 0)) rfl
      · intro oo aa ww LL hho hLL haft st; obtain rfl := Option.some.inj hho; exact payI st (by kernel_rfl) hLL (by decide) (want_none rfl) (fun c h => by cases h) (fun _ _ => rfl) (run_andU rfl (st.argV (j := 7) (aft_of haft (by kernel_rfl)) rfl rfl) (st.argV (j := 8) (aft_of haft (by kernel_rfl)) rfl rfl) hyu HTU.out) rfl
      · intro oo aa ww LL hho hLL haft st; obtain rfl := Option.some.inj hho; exact payI st (by kernel_rfl) hLL (by decide) (want_none rfl) (fun c h => by cases h) (fun _ _ => rfl) (run_ixU (k := (x.1 : Nat)) rfl (st.argV (j := 1) (aft_of haft (by kernel_rfl)) rfl rfl) (st.argV (j := 2) (aft_of haft (by kernel_rfl)) rfl rfl) hxl) rfl
      · intro oo aa ww LL hho hLL haft st; obtain rfl := Option.some.inj hho; exact storeI st (by kernel_rfl) hLL (want_none rfl) (fun c h => by cases h) (fun _ _ => rfl) (run_stU rfl (st.argV (j := 10) (aft_of haft (by kernel_rfl)) rfl rfl) (st.argV (j := 9) (aft_of haft (by kernel_rfl)) rfl rfl) (d4.addc (row_get hxl)) d4.addf) rfl
    obtain rfl := st.end2 hL (by omega)
    exact step_only (by omega) (by omega) (by rw [List.getD_eq_getElem?_getD, HY.out]; rfl) d0 d1 d2 d3 d4 hB
    -- GENEND
  case done =>
    rintro D xs W hD rfl ⟨d0, d1, d2, d3, d4, hB⟩ hK
    obtain ⟨p0, p1, q0, q1⟩ := d2.two
    obtain ⟨p2, p3, q2, q3⟩ := d3.two
    rw [onlyF_all rows t K HKU.out] at d4
    have hd3 := d3.lt
    have hnl : (onlyR rows K t).length = rows.length := by simp [onlyR]
    gi_wp2
    have hKO : KeepsOthers W ((W.setCell ⟨w.heap.size + 1 + 1, 0, none⟩ (.int .i64 rows.length)).setCell ⟨w.heap.size + 1 + 1, 1, none⟩ (.slice (some ⟨g, 0, none⟩) rows.length rows.length)) := (KeepsOthers.setCell _ _ _).trans (KeepsOthers.setCell _ _ _)
    have hK' := hKO.same D _ hK rfl
    refine ⟨by simp, .inl ⟨_, _, rfl, run_takeDeferred hK', ?_⟩⟩
    have h2' := RowT.putObj ((d2.set_ 0 (.int .i64 rows.length)).set_ 1 (.slice (some ⟨g, 0, none⟩) rows.length rows.length)) hK' (.deferred none)
    have h4' := RowT.putObj ((d4.keep (i := 0) d2 (by decide) (.int .i64 rows.length)).keep (i := 1) (d2.set_ 0 (.int .i64 rows.length)) (by decide) (.slice (some ⟨g, 0, none⟩) rows.length rows.length)) hK' (.deferred none)
    refine ⟨_, res_relK rfl rfl h2', _, rfl, ⟨g, by rw [hnl], by omega, h4'⟩, ?_⟩
    exact ((hB.setCell (p := ⟨w.heap.size + 1 + 1, 0, none⟩) (by simp; omega) _).setCell (p := ⟨w.heap.size + 1 + 1, 1, none⟩) (by simp; omega) _).trans (belowK_b (w := w) (Nat.le_refl _) _ D _ _ (by simp only [World.size_alloc] at hD; omega) hK' rfl rfl)
  case stop =>
    rintro D c pre W _ _ h _
    exact h.elim
set_option maxHeartbeats 2000000 in
theorem only_bad (a : RA) (f t : Nat) (w : World) (hg : a.good w) (hok : a.ok = false) :
    Calls Tryd.prog 45 #[a.val, .int .u64 f, .int .u64 t] w (RetR w PR.zero) := by
  have HG := Lib.hid hg
  have HO := Lib.hid hok
  clear hg hok
  have hval : a.val = .agg #[.int .i64 a.n, .slice a.A a.rows.length a.cap] := rfl
  rw [hval]
  go_enter Tryd.func45, Tryd.ntmps45
  go_wp2_with (go_at_call 16; refine (check_bad HG.out.1 (HG.out.2.into (below_three _ _ _ _)) HO.out).mono ?_; rintro e w1 ⟨rfl, hb⟩; obtain ⟨hz0, hz1, hz2⟩ := size_three hb; have hB := (below_three w _ _ _).next hb; have x2 := (RowT.new ((w.alloc (.cells #[.int .i64 a.n, .slice a.A a.rows.length a.cap] 26)).alloc (.cells #[.int .u64 t] 37)) 26 [.int .i64 0, .slice none 0 0]).below hb (by simp only [World.size_alloc]; omega); simp only [World.size_alloc] at x2; obtain ⟨a0, a1, a2, a3⟩ := x2.two)
  exact post_cell rfl rfl rfl ((x2.set_ 0 (.int .i64 0)).set_ 1 (.slice none 0 0)) (fin_Z ((hB.setCell (p := ⟨w.heap.size + 1 + 1, 0, none⟩) (by simp; omega) _).setCell (p := ⟨w.heap.size + 1 + 1, 1, none⟩) (by simp; omega) _))
theorem onlyR_eq (rows : List Nat) (f t : Nat) : onlyR rows (f &&& (2 ^ rows.length - 1)) t = (List.range rows.length).map (onlyB rows f t) := by
  refine List.map_congr_left fun i hi => ?_
  have hi' : i < rows.length := by simpa using hi
  have e : (f &&& (2 ^ rows.length - 1)).testBit i = f.testBit i := by
    rw [Bool.eq_iff_iff, all_bit]; exact ⟨fun h => h.1, fun h => ⟨h, hi'⟩⟩
  unfold onlyB
  rw [e]
theorem only_c (a : RA) (f t : Nat) (w : World) (hT : Tab w) (hg : a.good w) (hf : f < 18446744073709551616) (ht : t < 18446744073709551616) : Calls Tryd.prog 45 #[a.val, .int .u64 ((f : Nat) : Int), .int .u64 ((t : Nat) : Int)] w (RetR w (Ponly a.pr f t)) := by
  unfold Ponly
  cases ho : a.ok with
  | false => rw [if_neg (fun e => by rw [show a.pr.ok = a.ok from rfl, ho] at e; cases e)]; exact only_bad a f t w hg ho
  | true =>
    obtain ⟨h1, h2, _⟩ := ok_rows (show a.pr.ok = true from ho)
    rw [if_pos (show a.pr.ok = true from ho)]
    refine RetR.newR ?_ (show a.pr.n = (((List.range a.pr.rows.length).map (onlyB a.pr.rows f t)).length : Nat) by rw [h1]; simp) (onlyB_u hg.1 _)
    rw [← onlyR_eq]
    exact only_ok a f t w hT hg ho hf ht
theorem en_Only : Enters Tryd.prog 45 := enters_of Tryd.func45 (by kernel_rfl) rfl
theorem en_rOnly : Enters Tryd.prog 46 := enters_of Tryd.func46 (by kernel_rfl) rfl
end Go.Proofs.YtigdecmfieaacaaDoor
namespace Go.Proofs.YtigdecmfieaacaaDoor
open Go Go.RowKit

theorem kitSelf (p : PR) : PkitRel p p = true := by simp [PkitRel]
theorem short_only (r : PR) (f t : Nat) : Short (Ponly r f t) := by
  unfold Ponly
  split
  · rename_i h; refine short_of ?_; simpa using (ok_rows h).2.1
  · exact short_zero
theorem Ppairs_len (r : PR) : (Ppairs r).length ≤ 9223372036854775807 := by
  unfold Ppairs
  split
  · rename_i h
    have h1 := pairsTo_len r.rows r.rows.length
    have h2 := (ok_rows h).2.1
    unfold pairsR; omega
  · simp
def CallIm (f : FuncId) : Prop := ∀ (a : RA) (m : Nat) (w : World), Tab w → a.good w → Short a.pr → m < 18446744073709551616 → Calls Tryd.prog f #[a.val, .int .u64 ((m : Nat) : Int)] w (Ret w (.int .u64 ((Pimage a.pr m : Nat) : Int)))
def CallPs (f : FuncId) : Prop := ∀ (a : RA) (w : World), Tab w → a.good w → Short a.pr → Calls Tryd.prog f #[a.val] w (RetQ w fun v w' => ∃ A c, v = .slice A (Ppairs a.pr).length c ∧ Reads w' w'.heap.size 2 A (Ppairs a.pr).length (prs (Ppairs a.pr)))
def CallOn (f : FuncId) : Prop := ∀ (a : RA) (m t : Nat) (w : World), Tab w → a.good w → Short a.pr → m < 18446744073709551616 → t < 18446744073709551616 → Calls Tryd.prog f #[a.val, .int .u64 ((m : Nat) : Int), .int .u64 ((t : Nat) : Int)] w (RetR w (Ponly a.pr m t))
theorem C_Im : CallIm 27 := fun _ _ w hT hg _ hm => image_c w rfl hT hm hg
theorem C_rIm : CallIm 28 := fun a m w hT hg hs _ => rImage_c a m w hT hg hs
theorem C_Ps : CallPs 32 := fun a w hT hg _ => pairs_all a w hT hg
theorem C_rPs : CallPs 33 := fun a w hT hg hs => rPairs_c a w hT hg hs
theorem C_On : CallOn 45 := fun a m t w hT hg _ hm ht => only_c a m t w hT hg hm ht
theorem C_rOn : CallOn 46 := fun a m t w hT hg hs _ ht => rOnly_c a m t w hT hg hs ht
theorem en_Image : Enters Tryd.prog 27 := enters_of Tryd.func27 (by kernel_rfl) rfl
theorem en_Ints : Enters Tryd.prog 25 := enters_of Tryd.func25 (by kernel_rfl) rfl
theorem en_rAnd : Enters Tryd.prog 37 := enters_of Tryd.func37 (by kernel_rfl) rfl
theorem en_rLess : Enters Tryd.prog 39 := enters_of Tryd.func39 (by kernel_rfl) rfl
section
variable {ops : Array Oper} {Q : Exit → Act → World → Prop} {sps : List Sp} {a0 : Act} {w0 : World} {L : Nat → Bool} {i : Nat} {o : Oper} {a : Act} {w : World}
theorem St.outI {s : Tmp} {A : Option Addr} {cap : Nat} {l : List Int} (st : St ops (TS sps) (GB w0) a0 L a w) (hs : ((List.range ops.size).all fun j => slotOf ops j != some s) = true) (hv : a0.tmps[s]? = some (.slice A l.length cap)) (hr : Reads w0 w0.heap.size 1 A l.length (l.map I)) : AInts (a.eval (.tmp s)) l w :=
  ⟨A, cap, st.out hs hv, hr.into st.g⟩
theorem call_Ints {x y : Operand} {ts : Array TypeId} {l : List Int} (st : St ops (TS sps) (GB w0) a0 L a w) (hw : Region.wanted o (yielded ops a.tmps) = true) (hop : o.op = .call { callee := .value (.func 25), args := #[x, y], argTypes := ts }) (hx : AInts (a.eval x) l w) (hy : AInts (a.eval y) l w) (hl : l.length ≤ 9223372036854775807) (hsp : sps.getD i .top = .val (.bool true)) :
    Owes Tryd.prog ops Q (TS sps) (GB w0) L i o a w := by
  obtain ⟨A, c, h1, h2⟩ := hx
  obtain ⟨B, d, k1, k2⟩ := hy
  exact pay_call st hw en_Ints hop (by simp [h1, k1]) hsp rfl ((ints_yes A B c d w rfl hl h2 k2).mono fun _ _ h => ret_holds h)
theorem call_Im {f : FuncId} {x y : Operand} {ts : Array TypeId} {p : PR} {m : Nat} (C : CallIm f) (he : Enters Tryd.prog f) (hT : Tab w0) (st : St ops (TS sps) (GB w0) a0 L a w) (hw : Region.wanted o (yielded ops a.tmps) = true) (hop : o.op = .call { callee := .value (.func f), args := #[x, y], argTypes := ts }) (hx : ARel (a.eval x) p w) (hy : a.eval y = .int .u64 ((m : Nat) : Int)) (hm : m < 18446744073709551616) (hsp : sps.getD i .top = .val (.int .u64 ((Pimage p m : Nat) : Int))) :
    Owes Tryd.prog ops Q (TS sps) (GB w0) L i o a w := by
  obtain ⟨b, h1, rfl, h3, h4⟩ := hx
  exact pay_call st hw he hop (by simp [h1, hy]) hsp rfl ((C b m w (hT.on st.g) h3 h4 hm).mono fun _ _ h => ret_holds h)
theorem call_Ps {f : FuncId} {x : Operand} {ts : Array TypeId} {p : PR} (C : CallPs f) (he : Enters Tryd.prog f) (hT : Tab w0) (st : St ops (TS sps) (GB w0) a0 L a w) (hw : Region.wanted o (yielded ops a.tmps) = true) (hop : o.op = .call { callee := .value (.func f), args := #[x], argTypes := ts }) (hx : ARel (a.eval x) p w) (hsp : sps.getD i .top = .prsl (Ppairs p)) :
    Owes Tryd.prog ops Q (TS sps) (GB w0) L i o a w := by
  obtain ⟨b, h1, rfl, h3, h4⟩ := hx
  refine pay_call st hw he hop (by simp [h1]) hsp rfl ((C b w (hT.on st.g) h3 h4).mono ?_)
  rintro e w' ⟨v, rfl, ⟨A, c, rfl, hr⟩, hb⟩
  exact ⟨_, rfl, fun _ => ⟨A, c, rfl, hr⟩, hb⟩
theorem call_kitP {x y : Operand} {ts : Array TypeId} {l : List (Int × Int)} (st : St ops (TS sps) (GB w0) a0 L a w) (hw : Region.wanted o (yielded ops a.tmps) = true) (hop : o.op = .call { callee := .value (.func 31), args := #[x, y], argTypes := ts }) (hx : APrs (a.eval x) l w) (hy : APrs (a.eval y) l w) (hl : l.length ≤ 9223372036854775807) (hsp : sps.getD i .top = .val (.bool true)) :
    Owes Tryd.prog ops Q (TS sps) (GB w0) L i o a w := by
  obtain ⟨A, c, h1, h2⟩ := hx
  obtain ⟨B, d, k1, k2⟩ := hy
  exact pay_call st hw en_kitPairs hop (by simp [h1, k1]) hsp rfl ((kitPairs_yes l A B c d w hl h2 k2).mono fun _ _ h => ret_holds h)
theorem call_On {f : FuncId} {x y z : Operand} {ts : Array TypeId} {p : PR} {m t : Nat} (C : CallOn f) (he : Enters Tryd.prog f) (hT : Tab w0) (st : St ops (TS sps) (GB w0) a0 L a w) (hw : Region.wanted o (yielded ops a.tmps) = true) (hop : o.op = .call { callee := .value (.func f), args := #[x, y, z], argTypes := ts }) (hx : ARel (a.eval x) p w) (hy : a.eval y = .int .u64 ((m : Nat) : Int)) (hz : a.eval z = .int .u64 ((t : Nat) : Int)) (hm : m < 18446744073709551616) (ht : t < 18446744073709551616) (hsp : sps.getD i .top = .rel (Ponly p m t)) :
    Owes Tryd.prog ops Q (TS sps) (GB w0) L i o a w := by
  obtain ⟨b, h1, rfl, h3, h4⟩ := hx
  exact pay_call st hw he hop (by simp [h1, hy, hz]) hsp rfl ((C b m t w (hT.on st.g) h3 h4 hm ht).mono fun _ _ h => retR_holds (short_only _ _ _) h)
theorem call_Or0 {x : Operand} {ts : Array TypeId} (st : St ops (TS sps) (GB w0) a0 L a w) (hw : Region.wanted o (yielded ops a.tmps) = true) (hop : o.op = .call { callee := .value (.func 34), args := #[x], argTypes := ts }) (hx : a.eval x = .slice none 0 0) (hsp : sps.getD i .top = .rel PR.zero) :
    Owes Tryd.prog ops Q (TS sps) (GB w0) L i o a w :=
  pay_call st hw en_Or hop (by simp [hx]) hsp rfl ((or_c0 w).mono fun _ _ h => retR_holds short_zero h)
end
theorem start_act5 (n : Nat) (x y z u v : Value) (hn : 5 ≤ n) : ({ tmps := #[x, y, z, u, v] ++ Array.replicate (n - 5) undef, defers := [] } : Act).tmps.size = n ∧ ({ tmps := #[x, y, z, u, v] ++ Array.replicate (n - 5) undef, defers := [] } : Act).eval (.tmp 0) = x ∧ ({ tmps := #[x, y, z, u, v] ++ Array.replicate (n - 5) undef, defers := [] } : Act).eval (.tmp 1) = y ∧ ({ tmps := #[x, y, z, u, v] ++ Array.replicate (n - 5) undef, defers := [] } : Act).eval (.tmp 2) = z ∧
    ({ tmps := #[x, y, z, u, v] ++ Array.replicate (n - 5) undef, defers := [] } : Act).eval (.tmp 3) = u ∧ ({ tmps := #[x, y, z, u, v] ++ Array.replicate (n - 5) undef, defers := [] } : Act).eval (.tmp 4) = v := by
  refine ⟨by simp; omega, ?_, ?_, ?_, ?_, ?_⟩
  · show Array.getD _ 0 undef = x
    simp [Array.getD_eq_getD_getElem?, Array.getElem?_append]
  · show Array.getD _ 1 undef = y
    simp [Array.getD_eq_getD_getElem?, Array.getElem?_append]
  · show Array.getD _ 2 undef = z
    simp [Array.getD_eq_getD_getElem?, Array.getElem?_append]
  · show Array.getD _ 3 undef = u
    simp [Array.getD_eq_getD_getElem?, Array.getElem?_append]
  · show Array.getD _ 4 undef = v
    simp [Array.getD_eq_getD_getElem?, Array.getElem?_append]
end Go.Proofs.YtigdecmfieaacaaDoor
