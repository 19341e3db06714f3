/-
  Regions that draw their order, over relations: loads, slices, boxes, tests.
-/
import Derived.Test.YtigdecmfieaacaaDoorSp
namespace Go.Proofs.YtigdecmfieaacaaDoor
open Go Go.RowKit

section
variable {ops : Array Oper} {Q : Exit → Act → World → Prop} {sps : List Sp} {a0 : Act} {w0 : World} {L : Nat → Bool} {i : Nat} {o : Oper} {ρ : Operand → Value} {w : World}
theorem run_loadR {x : Operand} {b : Nat} {u v : Value} (hop : o.op = .load 26 x) (hx : ρ x = .pointer (some ⟨b, 0, none⟩)) (hr : RowT w b 26 [u, v]) :
    (execOp ρ o).run Tryd.prog w = .ok (.value (.agg #[u, v])) w := by
  obtain ⟨h0, h1, _, _⟩ := hr.two
  simp [execOp, hop, hx, go_sem, h0, h1]
theorem run_loadI {x : Operand} {p : Addr} {u : Int} {t : TypeId} (ht : t = 3) (hop : o.op = .load t x) (hx : ρ x = .pointer (some p)) (hr : w.cell? p = some (.int .i64 u)) :
    (execOp ρ o).run Tryd.prog w = .ok (.value (.int .i64 u)) w := by
  subst ht
  simp [execOp, hop, hx, go_sem, hr]
theorem run_field0 {x : Operand} {b : Nat} (hop : o.op = .fieldAddr 26 x 0) (hx : ρ x = .pointer (some ⟨b, 0, none⟩)) :
    (execOp ρ o).run Tryd.prog w = .ok (.value (.pointer (some ⟨b, 0, none⟩))) w := by
  simp [execOp, hop, hx, go_sem]
theorem run_rels1 {x : Operand} {a1 : RA} (hop : o.op = .buildSlice 55 1 #[(0, x)]) (hx : ρ x = a1.val) :
    (execOp ρ o).run Tryd.prog w = .ok (.value (.slice (some ⟨w.heap.size, 0, none⟩) 1 1)) (w.alloc (.cells ([a1].flatMap RA.cells).toArray 26)) := by
  unfold RA.val at hx
  simp [execOp, hop, hx, go_sem, RA.cells]
theorem run_rels2 {x y : Operand} {a1 a2 : RA} (hop : o.op = .buildSlice 55 2 #[(0, x), (1, y)]) (hx : ρ x = a1.val) (hy : ρ y = a2.val) :
    (execOp ρ o).run Tryd.prog w = .ok (.value (.slice (some ⟨w.heap.size, 0, none⟩) 2 2)) (w.alloc (.cells ([a1, a2].flatMap RA.cells).toArray 26)) := by
  unfold RA.val at hx hy
  simp [execOp, hop, hx, hy, go_sem, RA.cells]
theorem run_rels3 {x y z : Operand} {a1 a2 a3 : RA} (hop : o.op = .buildSlice 55 3 #[(0, x), (1, y), (2, z)]) (hx : ρ x = a1.val) (hy : ρ y = a2.val) (hz : ρ z = a3.val) :
    (execOp ρ o).run Tryd.prog w = .ok (.value (.slice (some ⟨w.heap.size, 0, none⟩) 3 3)) (w.alloc (.cells ([a1, a2, a3].flatMap RA.cells).toArray 26)) := by
  unfold RA.val at hx hy hz
  simp [execOp, hop, hx, hy, hz, go_sem, RA.cells]
theorem run_allocR {t : TypeId} (ht : t = 26) (hop : o.op = .alloc t) :
    (execOp ρ o).run Tryd.prog w = .ok (.value (.pointer (some ⟨w.heap.size, 0, none⟩))) (w.alloc (.cells #[.int .i64 0, .slice none 0 0] 26)) := by
  subst ht
  simp [execOp, hop, go_sem]
theorem run_storeR {x y : Operand} {b : Nat} {u v : Value} {a' : RA} (hop : o.op = .store 26 x y) (hx : ρ x = .pointer (some ⟨b, 0, none⟩)) (hy : ρ y = a'.val) (hr : RowT w b 26 [u, v]) :
    (execOp ρ o).run Tryd.prog w = .ok .skip ((w.setCell ⟨b, 0, none⟩ (.int .i64 a'.n)).setCell ⟨b, 1, none⟩ (.slice a'.A a'.rows.length a'.cap)) := by
  obtain ⟨h0, h1, h2, h3⟩ := hr.two
  unfold RA.val at hy
  simp [execOp, hop, hx, hy, go_sem, h0, h1, h2, h3]
theorem run_not {x : Operand} {b : Bool} {t : TypeId} (hop : o.op = .unOp .not t x) (hx : ρ x = .bool b) : (execOp ρ o).run Tryd.prog w = .ok (.value (.bool (!b))) w := by
  simp [execOp, hop, hx, go_sem]
end
section
variable {ops : Array Oper} {Q : Exit → Act → World → Prop} {sps : List Sp} {a0 : Act} {w0 : World} {L : Nat → Bool} {i : Nat} {o : Oper} {a : Act} {w : World}
theorem St.want {g : Nat} {b : Bool} (st : St ops (TS sps) (GB w0) a0 L a w) (haft : ∀ e ∈ o.after, L e.on = true) (hg : o.guard = some (g, b)) (hl : (o.after.any fun e => e.on == g) = true) (hsp : sps.getD g .top = .val (.bool b)) : Region.wanted o (yielded ops a.tmps) = true := by
  have := st.t g (aft_of haft hl)
  unfold TS at this
  rw [hsp] at this
  exact want_of hg this
theorem St.skip {g : Nat} {b : Bool} (st : St ops (TS sps) (GB w0) a0 L a w) (haft : ∀ e ∈ o.after, L e.on = true) (hg : o.guard = some (g, b)) (hl : (o.after.any fun e => e.on == g) = true) (hsp : sps.getD g .top = .val (.bool (!b))) (hi : sps.getD i .top = .top) : Owes Tryd.prog ops Q (TS sps) (GB w0) L i o a w := by
  have := st.t g (aft_of haft hl)
  unfold TS at this
  rw [hsp] at this
  exact Owes.skipped (want_not hg this) (TS.self hi rfl trivial) st.g
theorem pay_loadR {x : Operand} {b : Nat} {a' : RA} (st : St ops (TS sps) (GB w0) a0 L a w) (hw : Region.wanted o (yielded ops a.tmps) = true) (hop : o.op = .load 26 x) (hx : a.eval x = .pointer (some ⟨b, 0, none⟩))
    (hr : RowT w0 b 26 a'.cells) (hg : a'.good w0) (hs : Short a'.pr) (hsp : sps.getD i .top = .rel a'.pr) : Owes Tryd.prog ops Q (TS sps) (GB w0) L i o a w :=
  pay_pure st hw (run_loadR hop hx (hr.below st.g hr.lt)) hsp rfl ⟨a', rfl, rfl, hg.on st.g, hs⟩
theorem pay_loadS {x : Operand} {r : PR} (st : St ops (TS sps) (GB w0) a0 L a w) (hw : Region.wanted o (yielded ops a.tmps) = true) (hop : o.op = .load 26 x) (hx : AStored (a.eval x) r w) (hsp : sps.getD i .top = .rel r) : Owes Tryd.prog ops Q (TS sps) (GB w0) L i o a w := by
  obtain ⟨b, a', h1, h2, h3, h4, h5⟩ := hx
  exact pay_pure st hw (run_loadR hop h1 h2) hsp rfl ⟨a', rfl, h3, h4, h5⟩
theorem pay_field {x : Operand} {b : Nat} (st : St ops (TS sps) (GB w0) a0 L a w) (hw : Region.wanted o (yielded ops a.tmps) = true) (hop : o.op = .fieldAddr 26 x 0) (hx : a.eval x = .pointer (some ⟨b, 0, none⟩)) (hsp : sps.getD i .top = .val (.pointer (some ⟨b, 0, none⟩))) :
    Owes Tryd.prog ops Q (TS sps) (GB w0) L i o a w := pay_pure st hw (run_field0 hop hx) hsp rfl rfl
theorem pay_loadN {x : Operand} {b : Nat} {a' : RA} (st : St ops (TS sps) (GB w0) a0 L a w) (hw : Region.wanted o (yielded ops a.tmps) = true) (hop : o.op = .load 3 x) (hx : a.eval x = .pointer (some ⟨b, 0, none⟩)) (hr : RowT w0 b 26 a'.cells) (hsp : sps.getD i .top = .val (.int .i64 a'.n)) :
    Owes Tryd.prog ops Q (TS sps) (GB w0) L i o a w := pay_pure st hw (run_loadI rfl hop hx ((hr.below st.g hr.lt).two (u := .int .i64 a'.n) (v := .slice a'.A a'.rows.length a'.cap)).1) hsp rfl rfl
theorem pay_rels1 {x : Operand} {p : PR} (st : St ops (TS sps) (GB w0) a0 L a w) (hw : Region.wanted o (yielded ops a.tmps) = true) (hop : o.op = .buildSlice 55 1 #[(0, x)]) (hx : ARel (a.eval x) p w) (hsp : sps.getD i .top = .rels [p]) : Owes Tryd.prog ops Q (TS sps) (GB w0) L i o a w := by
  obtain ⟨a1, h1, rfl, h3, _⟩ := hx
  have hb := below_alloc w (.cells ([a1].flatMap RA.cells).toArray 26)
  exact pay_new st hw (run_rels1 hop h1) hb hsp rfl ⟨[a1], w.heap.size, rfl, rfl, RowT.new w _ _, by simpa using h3.on hb⟩
theorem pay_rels2 {x y : Operand} {p q : PR} (st : St ops (TS sps) (GB w0) a0 L a w) (hw : Region.wanted o (yielded ops a.tmps) = true) (hop : o.op = .buildSlice 55 2 #[(0, x), (1, y)]) (hx : ARel (a.eval x) p w) (hy : ARel (a.eval y) q w) (hsp : sps.getD i .top = .rels [p, q]) : Owes Tryd.prog ops Q (TS sps) (GB w0) L i o a w := by
  obtain ⟨a1, h1, rfl, h3, _⟩ := hx
  obtain ⟨a2, k1, rfl, k3, _⟩ := hy
  have hb := below_alloc w (.cells ([a1, a2].flatMap RA.cells).toArray 26)
  exact pay_new st hw (run_rels2 hop h1 k1) hb hsp rfl ⟨[a1, a2], w.heap.size, rfl, rfl, RowT.new w _ _, by
    intro c hc
    rcases List.mem_cons.1 hc with rfl | hc
    · exact h3.on hb
    · rw [List.mem_singleton.1 hc]; exact k3.on hb⟩
theorem pay_rels3 {x y z : Operand} {p q r : PR} (st : St ops (TS sps) (GB w0) a0 L a w) (hw : Region.wanted o (yielded ops a.tmps) = true) (hop : o.op = .buildSlice 55 3 #[(0, x), (1, y), (2, z)]) (hx : ARel (a.eval x) p w) (hy : ARel (a.eval y) q w) (hz : ARel (a.eval z) r w) (hsp : sps.getD i .top = .rels [p, q, r]) : Owes Tryd.prog ops Q (TS sps) (GB w0) L i o a w := by
  obtain ⟨a1, h1, rfl, h3, _⟩ := hx
  obtain ⟨a2, k1, rfl, k3, _⟩ := hy
  obtain ⟨a3, m1, rfl, m3, _⟩ := hz
  have hb := below_alloc w (.cells ([a1, a2, a3].flatMap RA.cells).toArray 26)
  exact pay_new st hw (run_rels3 hop h1 k1 m1) hb hsp rfl ⟨[a1, a2, a3], w.heap.size, rfl, rfl, RowT.new w _ _, by
    intro c hc
    rcases List.mem_cons.1 hc with rfl | hc
    · exact h3.on hb
    · rcases List.mem_cons.1 hc with rfl | hc
      · exact k3.on hb
      · rw [List.mem_singleton.1 hc]; exact m3.on hb⟩
theorem pay_move {x : Operand} {s : Sp} (st : St ops (TS sps) (GB w0) a0 L a w) (hw : Region.wanted o (yielded ops a.tmps) = true) (hop : o.op = .move x) (hx : s.holds (a.eval x) (vat ops a) w) (hsp : sps.getD i .top = s) (hk : s.deps = []) : Owes Tryd.prog ops Q (TS sps) (GB w0) L i o a w := pay_pure st hw (run_move hop) hsp hk hx
theorem pay_assign {x : Operand} {s : Sp} (st : St ops (TS sps) (GB w0) a0 L a w) (hw : Region.wanted o (yielded ops a.tmps) = true) (hop : o.op = .assign x) (hx : s.holds (a.eval x) (vat ops a) w) (hsp : sps.getD i .top = s) (hk : s.deps = []) : Owes Tryd.prog ops Q (TS sps) (GB w0) L i o a w := pay_pure st hw (run_assign hop) hsp hk hx
theorem pay_pick {c x y : Operand} {b : Bool} {s : Sp} (st : St ops (TS sps) (GB w0) a0 L a w) (hw : Region.wanted o (yielded ops a.tmps) = true) (hop : o.op = .pick c x y) (hc : a.eval c = .bool b) (hx : s.holds (if b then a.eval x else a.eval y) (vat ops a) w) (hsp : sps.getD i .top = s) (hk : s.deps = []) : Owes Tryd.prog ops Q (TS sps) (GB w0) L i o a w := pay_pure st hw (run_pick hop hc) hsp hk hx
theorem pay_not {x : Operand} {b : Bool} {t : TypeId} (st : St ops (TS sps) (GB w0) a0 L a w) (hw : Region.wanted o (yielded ops a.tmps) = true) (hop : o.op = .unOp .not t x) (hx : a.eval x = .bool b) (hsp : sps.getD i .top = .val (.bool (!b))) : Owes Tryd.prog ops Q (TS sps) (GB w0) L i o a w := pay_pure st hw (run_not hop hx) hsp rfl rfl
theorem pay_allocR (st : St ops (TS sps) (GB w0) a0 L a w) (hw : Region.wanted o (yielded ops a.tmps) = true) (hop : o.op = .alloc 26) (hsp : sps.getD i .top = .box w0.heap.size) : Owes Tryd.prog ops Q (TS sps) (GB w0) L i o a w :=
  pay_new st hw (run_allocR rfl hop) (below_alloc w _) hsp rfl ⟨w.heap.size, 0, none, 0, 0, rfl, st.g.size, RowT.new w _ [.int .i64 0, .slice none 0 0]⟩
theorem good_box {a' : RA} {b : Nat} {n : Int} {A : Option Addr} {l c : Nat} (hg : a'.good w) (hr : RowT w b 26 [.int .i64 n, .slice A l c]) (u v : Value) : a'.good ((w.setCell ⟨b, 0, none⟩ u).setCell ⟨b, 1, none⟩ v) := by
  refine ⟨hg.1, hg.2.1, fun hpos => ?_⟩
  obtain ⟨ad, h1, h2, h3⟩ := hg.2.2 hpos
  refine ⟨ad, h1, by rw [size_setCell, size_setCell]; exact h2, fun j x hj => ?_⟩
  have hne : ad.block ≠ b := by
    intro e
    obtain ⟨y, hy⟩ : ∃ y, (a'.rows.map U)[0]? = some (U y) := ⟨_, by rw [List.getElem?_map, List.getElem?_eq_getElem hpos]; rfl⟩
    have h0 := h3 0 _ hy
    have hz : ad.add 0 = ad := by unfold Addr.add; rfl
    rw [hz] at h0
    obtain ⟨blk, off, spot⟩ := ad
    have hs : spot = none := World.cell?_spot h0
    subst hs
    obtain rfl : blk = b := e
    rw [hr.cell off] at h0
    match off, h0 with
    | 0, h0 => cases h0
    | 1, h0 => cases h0
    | n + 2, h0 => cases h0
  have hb : (ad.add j).block = ad.block := block_of_add ad j
  have n0 : (⟨b, 0, none⟩ : Addr) ≠ ad.add j := by intro e; rw [← e] at hb; exact hne hb.symm
  have n1 : (⟨b, 1, none⟩ : Addr) ≠ ad.add j := by intro e; rw [← e] at hb; exact hne hb.symm
  rw [World.cell?_setCell_other (h := n1), World.cell?_setCell_other (h := n0)]
  exact h3 j x hj
def storeOk (i : Nat) (sps : List Sp) : Bool := (List.range sps.length).all fun j => j == i || (match sps.getD j .top with
  | .rels l => l.length != 1
  | .ints _ => false
  | .prsl _ => false
  | .stored _ _ => false
  | _ => true)
theorem storeOk_at {j : Nat} (h : storeOk i sps = true) (hj : j ≠ i) (hlt : j < sps.length) : (match sps.getD j .top with
  | .rels l => l.length != 1
  | .ints _ => false
  | .prsl _ => false
  | .stored _ _ => false
  | _ => true) = true := by
  have := List.all_eq_true.1 h j (by simpa using hlt)
  rw [Bool.or_eq_true] at this
  rcases this with h | h
  · exact absurd (by simpa using h) hj
  · exact h
theorem stays_box {b : Nat} {n n' : Int} {A A' : Option Addr} {l c l' c' : Nat} {s : Sp} {v : Value} {ρ : Nat → Value} (hr : RowT w b 26 [.int .i64 n, .slice A l c])
    (hok : (match s with
      | .rels l => l.length != 1
      | .ints _ => false
      | .prsl _ => false
      | .stored _ _ => false
      | _ => true) = true) (h : s.holds v ρ w) : s.holds v ρ ((w.setCell ⟨b, 0, none⟩ (.int .i64 n')).setCell ⟨b, 1, none⟩ (.slice A' l' c')) := by
  cases s with
  | top => trivial
  | val u => exact h
  | rel r => obtain ⟨a', h1, h2, h3, h4⟩ := h; exact ⟨a', h1, h2, good_box h3 hr _ _, h4⟩
  | rels M =>
    obtain ⟨K, g, h1, h2, h3, h4⟩ := h
    have hne : g ≠ b := by
      rintro rfl
      have e := Option.some.inj (h3.symm.trans hr)
      have e2 : (K.flatMap RA.cells).length = 2 := by
        have := congrArg (fun o => match o with | Obj.cells cs _ _ => cs.size | _ => 0) e
        simpa using this
      have e3 : (K.flatMap RA.cells).length = 2 * K.length := by
        clear h1 h2 h3 h4 e e2
        induction K with
        | nil => rfl
        | cons a K ih => rw [List.flatMap_cons, List.length_append, ih]; simp [RA.cells]; omega
      have : M.length = 1 := by rw [← h2, List.length_map]; omega
      simp [this] at hok
    exact ⟨K, g, h1, h2, (h3.far (p := ⟨b, 0, none⟩) hne _).far (p := ⟨b, 1, none⟩) hne _, fun a' ha => good_box (h4 a' ha) hr _ _⟩
  | ints l => cases hok
  | prsl l => cases hok
  | box B =>
    obtain ⟨b', n1, A1, l1, c1, h1, h0, h2⟩ := h
    by_cases e : b' = b
    · subst e
      exact ⟨b', n', A', l', c', h1, h0, (hr.set_ 0 _).set_ 1 _⟩
    · exact ⟨b', n1, A1, l1, c1, h1, h0, (h2.far (p := ⟨b, 0, none⟩) e _).far (p := ⟨b, 1, none⟩) e _⟩
  | stored k r => cases hok
theorem pay_store {x y : Operand} {k : Nat} {d : Tmp} {r : PR} (st : St ops (TS sps) (GB w0) a0 L a w) (haft : ∀ e ∈ o.after, L e.on = true) (hw : Region.wanted o (yielded ops a.tmps) = true) (hop : o.op = .store 26 x y) (hx : x = .tmp d) (hd : slotOf ops k = some d) (hk : (o.after.any fun e => e.on == k) = true)
    (hbox : sps.getD k .top = .box w0.heap.size) (hki : k ≠ i) (hy : ARel (a.eval y) r w) (hsp : sps.getD i .top = .stored k r) (hok : storeOk i sps = true) (hlen : sps.length = ops.size) : Owes Tryd.prog ops Q (TS sps) (GB w0) L i o a w := by
  subst hx
  obtain ⟨b, n, A, l, c, h1, h0, h2⟩ := st.arg (aft_of haft hk) hd hbox
  obtain ⟨a', k1, rfl, k3, k4⟩ := hy
  have hBB : Below w0.heap.size w0 ((w.setCell ⟨b, 0, none⟩ (.int .i64 a'.n)).setCell ⟨b, 1, none⟩ (.slice a'.A a'.rows.length a'.cap)) := (Below.setCell st.g (p := ⟨b, 0, none⟩) h0 _).setCell (p := ⟨b, 1, none⟩) h0 _
  refine Owes.unit hw (run_storeR hop h1 k1 h2) ?_ hBB ?_
  · unfold TS
    rw [hsp]
    show AStored (if k = i then undef else vat ops a k) a'.pr _
    rw [if_neg hki, ← eval_slot hd]
    exact ⟨b, a', h1, (h2.set_ 0 _).set_ 1 _, rfl, good_box k3 h2 _ _, k4⟩
  · intro j hj hl hT
    unfold TS at hT ⊢
    exact stays_box h2 (storeOk_at hok hj (by rw [hlen]; exact st.inn j hl)) hT
theorem post_slot {fn : Func} {R : Ending → World → Prop} {a : Act} {w : World} {k : Tmp} {v : Value} (hf : fn.results = #[.tmp k]) (hd : a.defers = []) (hv : a.tmps[k]? = some v) (h : R (.returned v) w) : bodyPost Tryd.prog fn R .ret a w :=
  bodyPost_ret (v := v) (by simp [results, hf, go_sem, hv]) hd h
theorem region_ts {id n : Nat} (sps : List Sp) (w0 : World) (hm : Tryd.prog.follows .mixedOrders = true) (hwf : wfR ops a0.tmps.size = true) (hb : bindsAll ops = true) (hd : depsOk ops sps = true) (hl : sps.length = ops.size) (hn : ops.size = n)
    (steps : AllS n fun i => ∀ (o : Oper) (a : Act) (w : World) (L : Nat → Bool), ops[i]? = some o → L i = false → (∀ e ∈ o.after, L e.on = true) → St ops (TS sps) (GB w0) a0 L a w → Owes Tryd.prog ops Q (TS sps) (GB w0) L i o a w)
    (fin : ∀ L a w, (∀ i, i < n → L i = true) → St ops (TS sps) (GB w0) a0 L a w → Q .normal a w) : (Code.region id ops true).wp Tryd.prog Q a0 w0 :=
  region_steps hm hwf hb (ts_deps hd hl) (Below.refl _ _).drew hn steps fin
theorem region_ts_seq {id n : Nat} (sps : List Sp) (w0 : World) (hwf : wfR ops a0.tmps.size = true) (hd : depsOk ops sps = true) (hl : sps.length = ops.size) (hn : ops.size = n)
    (steps : AllS n fun i => ∀ (o : Oper) (a : Act) (w : World) (L : Nat → Bool), ops[i]? = some o → L i = false → (∀ e ∈ o.after, L e.on = true) → St ops (TS sps) (GB w0) a0 L a w → Owes Tryd.prog ops Q (TS sps) (GB w0) L i o a w)
    (fin : ∀ L a w, (∀ i, i < n → L i = true) → St ops (TS sps) (GB w0) a0 L a w → Q .normal a w) : (Code.region id ops false).wp Tryd.prog Q a0 w0 :=
  region_steps_seq hwf (ts_deps hd hl) (Below.refl _ _) hn steps fin
end
end Go.Proofs.YtigdecmfieaacaaDoor
