/-
  Package rel: Plus, Acyclic.
-/
import Derived.Test.YtigdecmfieaacaaDoorRelH
import Derived.Laws.CopyOwn
namespace Go.Proofs.YtigdecmfieaacaaDoor
open Go Go.RowKit

/-- Only block g has turned. -/
structure OnlyRow (g : Nat) (w w' : World) : Prop where
  os : w'.os = w.os
  tape : w'.tape = w.tape
  output : w'.output = w.output
  size : w'.heap.size = w.heap.size
  block : ∀ k, k ≠ g → w'.heap[k]? = w.heap[k]?
theorem OnlyRow.below {g B : Nat} {w w' : World} (h : OnlyRow g w w') (hB : B ≤ g) : Below B w w' := ⟨h.os, h.tape, h.output, Nat.le_of_eq h.size.symm, fun k hk => h.block k (by omega)⟩
theorem RowT.only {g b : Nat} {w w' : World} {t : TypeId} {cs : List Value} (h : RowT w b t cs) (ho : OnlyRow g w w') (hb : b ≠ g) : RowT w' b t cs := (ho.block b hb).trans h
/-- copy of a whole slice over a whole row. -/
theorem wpList_copy_all {P : Program} {w : World} {ops : Array Oper} {rest : List Oper} {o : Oper} {a : Act} {Q : Exit → Act → World → Prop} (hgd : o.guard = none) (d s : Operand) (dT sT : TypeId)
    (ho : o.op = .call { callee := .builtin .copy, args := #[d, s], argTypes := #[dT, sT] }) (elem : TypeId) (hu : P.underlying dT = some (.slice elem)) (hsz : (P.info? elem).map (·.size) = some 1)
    (g n m dCap sCap : Nat) (A : Option Addr) (hd : a.eval d = .slice (some ⟨g, 0, none⟩) n dCap) (hs : a.eval s = .slice A m sCap) (hmn : m = n)
    (cur cs : List Value) (t : TypeId) (hg : RowT w g t cur) (hcur : cur.length = n) (B : Nat) (hsrc : Reads w B 1 A n cs) (h1 : ∀ v ∈ cs, v.oneCell' = true)
    (h : ∀ w', RowT w' g t cs → OnlyRow g w w' → wpList P ops Q rest (a.put o.dst (goInt n)) w') : wpList P ops Q (o :: rest) a w := by
  obtain rfl : m = n := hmn
  have hl : cs.length = m := by have := hsrc.1; omega
  rcases Nat.eq_zero_or_pos m with h0 | h0
  · subst h0
    obtain rfl : cs = [] := List.eq_nil_of_length_eq_zero hl
    obtain rfl : cur = [] := List.eq_nil_of_length_eq_zero hcur
    refine wpList_copy_nothing hgd d s dT sT ho elem hu hsz _ _ _ dCap _ sCap hd hs (by simp) ?_
    exact h w hg ⟨rfl, rfl, rfl, rfl, fun _ _ => rfl⟩
  · obtain ⟨ad, rfl, _, hc⟩ := hsrc.2 h0
    have hg' : w.heap[g]? = some (.cells cur.toArray t (0, 0)) := hg
    refine wpList_copy_own hgd d s dT sT ho elem hu hsz g 0 m dCap ad m sCap hd hs cur.toArray t hg' cs (by simp [hl]) hc (by simp [hcur, hl]) h1 ?_
    rw [hl]
    refine h _ ?_ ⟨rfl, rfl, rfl, by simp [World.setRow], fun k hk => setRow_other w g k _ hk⟩
    have := setRow_heap w g cur.toArray (cur.toArray.toList.take 0 ++ (cs ++ cur.toArray.toList.drop (0 + m))).toArray t (0, 0) hg'
    have e : cur.drop m = [] := List.drop_eq_nil_of_le (by omega)
    simpa [RowT, e] using this
/-- One round of Plus: what leads to k leads on to all that k leads to. -/
def wkF (ws : List Nat) (k : Nat) (row : Nat) : Nat := if row.testBit k then row ||| ws.getD k 0 else row
def wk (ws : List Nat) (k : Nat) : List Nat := ws.map (wkF ws k)
def wks (rows : List Nat) (m : Nat) : List Nat := (List.range m).foldl wk rows
def plusL (rows : List Nat) : List Nat := wks rows rows.length
theorem wks_succ (rows : List Nat) (m : Nat) : wks rows (m + 1) = wk (wks rows m) m := by simp [wks, List.range_succ]
theorem wks_length (rows : List Nat) (m : Nat) : (wks rows m).length = rows.length := by
  induction m with
  | zero => rfl
  | succ m ih => rw [wks_succ, wk, List.length_map, ih]
theorem wks_lt {rows : List Nat} {N : Nat} (h : ∀ x ∈ rows, x < 2 ^ N) (m : Nat) : ∀ x ∈ wks rows m, x < 2 ^ N := by
  induction m with
  | zero => exact h
  | succ m ih =>
    rw [wks_succ]
    intro x hx
    obtain ⟨y, hy, rfl⟩ := List.mem_map.1 hx
    unfold wkF
    split
    · refine Nat.or_lt_two_pow (ih y hy) ?_
      rw [List.getD_eq_getElem?_getD]
      cases hg : (wks rows m)[m]? with
      | none => simpa using Nat.two_pow_pos N
      | some z => exact ih z (List.mem_of_getElem? hg)
    · exact ih y hy
theorem set_same {l : List Nat} {k x : Nat} (h : l[k]? = some x) : l.set k x = l := by
  apply List.ext_getElem?
  intro i
  rw [List.getElem?_set]
  by_cases hi : k = i
  · subst hi
    have := (List.getElem?_eq_some_iff.1 h).1
    rw [if_pos rfl, if_pos this, h]
  · rw [if_neg hi]
/-- Row k stays as it is while round k goes on. -/
theorem wk_self {ws : List Nat} {k z : Nat} (h : ws[k]? = some z) (i : Nat) : (midl (wkF ws k) ws i)[k]? = some z := by
  have hk := (List.getElem?_eq_some_iff.1 h).1
  have hz : wkF ws k z = z := by
    unfold wkF
    split
    · rw [List.getD_eq_getElem?_getD, h]; simp
    · rfl
  unfold midl
  rcases Nat.lt_or_ge k i with hi | hi
  · rw [List.getElem?_append_left (by simp; omega), List.getElem?_map, List.getElem?_take_of_lt hi, h]
    simp [hz]
  · rw [List.getElem?_append_right (by simp; omega)]
    simp only [List.length_map, List.length_take, List.getElem?_drop]
    rw [show i + (k - min i ws.length) = k from by omega]
    exact h

set_option maxHeartbeats 2000000 in
theorem plus_ok (a : RA) (w : World) (hg : a.good w) (hok : a.ok = true) :
    Calls Tryd.prog 43 #[a.val] w (RetQ w fun v w' => NewR w.heap.size (plusL a.rows) v w') := by
  have hlen : (a.rows.length : Int) = a.n ∧ a.rows.length ≤ 64 := by
    have h := hok
    simp only [RA.ok, okR, Bool.and_eq_true, decide_eq_true_eq] at h
    exact ⟨h.1.2, by omega⟩
  obtain ⟨hn, h64⟩ := hlen
  obtain ⟨N, hN⟩ : ∃ N, a.rows.length = N := ⟨_, rfl⟩
  have HG := Lib.hid hg
  have HO := Lib.hid hok
  have HN := Lib.hid hN
  have HUN := Lib.hid (ok_lt hok hN)
  have hNN : ∀ w, Calls Tryd.prog 13 #[.int .i64 a.n] w (RetQ w fun v w' => ∃ g, v = .agg #[.int .i64 N, .slice (some ⟨g, 0, none⟩) N N] ∧ w.heap.size ≤ g ∧ RowT w' g 37 ((List.replicate N 0).map U)) := fun w => by
    rw [← hn, hN]; exact none_ok N w (by omega)
  have HNN := Lib.hid hNN
  rw [hN] at h64
  have hPL : (plusL a.rows).length = N := (wks_length _ _).trans hN
  have HPL := Lib.hid hPL
  clear hg hok hN hNN hn hPL
  unfold RA.val
  go_enter Tryd.func43, Tryd.ntmps43
  go_wp2_with (first | (go_at_call 16; refine (check_ok HG.out.1 ?_ HO.out).mono ?_; exact HG.out.2.into (below_two _ _ _); rintro e w1 ⟨rfl, hb1⟩; obtain ⟨hz0, hz1⟩ := size_two hb1; have hb2 := (below_two w _ _).trans (hb1.mono (by simp only [World.size_alloc]; omega)); obtain ⟨hc, hf⟩ := bcell hb1) | (go_at_call 13; refine (HNN.out _).mono ?_; rintro e w2 ⟨v, rfl, ⟨g, rfl, hg, hrow⟩, hb3⟩; obtain ⟨hc2, hf2⟩ := bcell hb3; have hy := hb3.size; have hy0 : w.heap.size < w2.heap.size := (by omega); have hy1 : w.heap.size + 1 < w2.heap.size := (by omega)) | (with_reducible refine wpList_copy_all (o := ⟨some 18, _, _, _, _, _⟩) rfl (.tmp 15) (.tmp 17) 24 24 rfl 37 Tryd.underlying24 (by kernel_rfl) g N a.rows.length N a.cap a.A rfl rfl HN.out ((List.replicate N 0).map U) (a.rows.map U) 37 (hrow.alloc _) (by simp) w.heap.size ?_ ?_ ?_))
  · rw [← HN.out]
    exact HG.out.2.below ((hb2.trans (hb3.mono hb2.size)).alloc (Nat.le_trans hb2.size hb3.size) _)
  · intro v hv
    obtain ⟨x, _, rfl⟩ := List.mem_map.1 hv
    rfl
  intro w3 hr3 honly
  have hgl2 := hrow.lt
  have x1 := ((((RowT.new w 26 [.int .i64 a.n, .slice a.A a.rows.length a.cap]).alloc (.cells #[.int .i64 0, .slice none 0 0] 26)).below hb1 (by simp only [World.size_alloc]; omega)).below hb3 hz0).alloc (.cells #[.int .i64 N, .slice (some ⟨g, 0, none⟩) N N] 26)
  have x2' := RowT.new (w.alloc (.cells #[.int .i64 a.n, .slice a.A a.rows.length a.cap] 26)) 26 [.int .i64 0, .slice none 0 0]
  rw [World.size_alloc] at x2'
  have x2 := (((x2'.below hb1 (by simp only [World.size_alloc]; omega)).below hb3 hz1).alloc (.cells #[.int .i64 N, .slice (some ⟨g, 0, none⟩) N N] 26)).only honly (by omega)
  have x3 := (RowT.new w2 26 [.int .i64 N, .slice (some ⟨g, 0, none⟩) N N]).only honly (by omega)
  have hB2 : Below w.heap.size w w2 := hb2.trans (hb3.mono hb2.size)
  have hB3 : Below w.heap.size w w3 := (hB2.alloc hB2.size _).trans (honly.below (by omega))
  have hgw : w.heap.size + 1 < g := by omega
  obtain ⟨e0, e1, _, _⟩ := x3.two
  clear x1 x2' hb1 hb2 hb3 hc hf hc2 hf2 hrow honly hB2
  go_wp2
  go_loopw [22] (fun i wr => ∃ m : Nat, i = .int .i64 m ∧ m ≤ N ∧ RowT wr g 37 ((wks a.rows m).map U) ∧
      RowT wr (w.heap.size + 1) 26 [.int .i64 0, .slice none 0 0] ∧ RowT wr w2.heap.size 26 [.int .i64 N, .slice (some ⟨g, 0, none⟩) N N] ∧ Below w.heap.size w wr) (fun i _ => N - (intOf i).toNat)
  case atStart => exact ⟨0, rfl, by omega, hr3, x2, x3, hB3⟩
  case round =>
    obtain ⟨m, rfl, hm, hr, d2, d3, hBr⟩ := hrel
    clear hr3 x2 x3 hB3 e0 e1
    obtain ⟨c0, c1, c2, c3⟩ := d2.two
    obtain ⟨e0, e1, _, _⟩ := d3.two
    by_cases hlt : m < N
    · obtain ⟨wo, rfl⟩ : ∃ wo : World, wo = wr := ⟨_, rfl⟩
      obtain ⟨z, hz⟩ : ∃ z, (wks a.rows m)[m]? = some z := ⟨_, List.getElem?_eq_getElem (by rw [wks_length, HN.out]; exact hlt)⟩
      have hzN := wks_lt HUN.out m z (List.mem_of_getElem? hz)
      have hN64 := pow_le_64 N h64
      have HZU : Hid (z < 18446744073709551616) := Lib.hid (Nat.lt_of_lt_of_le hzN hN64)
      have HZ := Lib.hid hz
      have hm64 : m < 64 := by omega
      clear hz hzN hN64
      go_wp2
      go_loopw [28] (fun i wr => ∃ k : Nat, i = .int .i64 k ∧ k ≤ N ∧ RowT wr g 37 ((midl (wkF (wks a.rows m) m) (wks a.rows m) k).map U) ∧
        RowT wr (w.heap.size + 1) 26 [.int .i64 0, .slice none 0 0] ∧ RowT wr w2.heap.size 26 [.int .i64 N, .slice (some ⟨g, 0, none⟩) N N] ∧ Below w.heap.size w wr) (fun i _ => N - (intOf i).toNat)
      case atStart => exact ⟨0, rfl, by omega, by rw [midl_zero]; exact hr, d2, d3, hBr⟩
      case round =>
        obtain ⟨k, rfl, hk, hri, i2, i3, hBi⟩ := hrel
        clear hr d2 d3 c0 c1 c2 c3 e0 e1
        obtain ⟨e0, e1, _, _⟩ := i3.two
        by_cases hkt : k < N
        · obtain ⟨x, hx⟩ : ∃ x, (wks a.rows m)[k]? = some x := ⟨_, List.getElem?_eq_getElem (by rw [wks_length, HN.out]; exact hkt)⟩
          have hxN := wks_lt HUN.out m x (List.mem_of_getElem? hx)
          have hN64 := pow_le_64 N h64
          have hxu : x < 18446744073709551616 := Nat.lt_of_lt_of_le hxN hN64
          have hck : wr.cell? ⟨g, k, none⟩ = some (.int .u64 (x : Int)) := by
            rw [hri.cell k, List.getElem?_map, midl_get hx]; rfl
          have hcm : wr.cell? ⟨g, m, none⟩ = some (.int .u64 (z : Int)) := by
            rw [hri.cell m, List.getElem?_map, wk_self HZ.out]; rfl
          have hfk := hri.frozen k
          have HX := Lib.hid hx
          have HXU := Lib.hid hxu
          clear hx hxN hN64 hxu
          cases ht : x.testBit m with
          | true =>
            have HF : Hid (wkF (wks a.rows m) m x = x ||| z) := by
              rw [wkF, if_pos ht, List.getD_eq_getElem?_getD, HZ.out]; exact rfl
            have HH : Hid (∀ w, Calls Tryd.prog 47 #[.int .u64 x, .int .i64 m] w (Ret w (.bool true))) := Lib.hid (fun w => by have := holds_any x m w HXU.out hm64; rwa [ht] at this)
            clear ht
            go_wp2_with (go_at_call 47; refine (HH.out _).mono ?_; rintro e w4 ⟨rfl, hb4⟩; have hy4 := i3.lt; have hy5 := hri.lt; obtain ⟨e0, e1, _, _⟩ := (i3.below hb4 hy4).two; have hck := (hb4.cell (p := ⟨g, k, none⟩) hy5).trans hck; have hcm := (hb4.cell (p := ⟨g, m, none⟩) hy5).trans hcm; have hfk := (hb4.frozen (p := ⟨g, k, none⟩) hy5).trans hfk)
            go_region
            go_wp2
            go_roundw
            case rel =>
              have hbb : Below wr.heap.size wr w4 := hb4
              refine ⟨k + 1, by go_num, by omega, ?_, ((i2.below hbb (by omega)).drew.far (by simp; omega) _), ((i3.below hbb hy4).drew.far (by simp; omega) _), (hBi.trans (hbb.mono hBi.size)).drew.setCell (by simp; omega) _⟩
              have := (hri.below hbb hy5).drew.set_ k (U (wkF (wks a.rows m) m x))
              rw [← List.map_set, midl_set HX.out, HF.out] at this
              rw [u64_or_nat _ _ HXU.out HZU.out]
              exact this
            case measure => simp [intOf]; omega
          | false =>
            have HF : Hid (wkF (wks a.rows m) m x = x) := by
              rw [wkF, if_neg (by simp [ht])]; exact rfl
            have HH : Hid (∀ w, Calls Tryd.prog 47 #[.int .u64 x, .int .i64 m] w (Ret w (.bool false))) := Lib.hid (fun w => by have := holds_any x m w HXU.out hm64; rwa [ht] at this)
            clear ht
            go_wp2_with (go_at_call 47; refine (HH.out _).mono ?_; rintro e w4 ⟨rfl, hb4⟩)
            go_roundw
            case rel =>
              have hbb : Below wr.heap.size wr w4 := hb4
              have hy4 := i3.lt
              have hy5 := hri.lt
              refine ⟨k + 1, by go_num, by omega, ?_, i2.below hbb (by omega), i3.below hbb hy4, hBi.trans (hbb.mono hBi.size)⟩
              have e := hri.below hbb hy5
              rw [← midl_set HX.out, HF.out]
              rwa [set_same (midl_get HX.out)]
            case measure => simp [intOf]; omega
        · obtain rfl : k = N := by omega
          go_wp2
          go_roundw
          case rel =>
            refine ⟨m + 1, by go_num, by omega, ?_, i2, i3, hBi⟩
            rw [wks_succ, wk]
            have e := midl_full (wkF (wks a.rows m) m) (wks a.rows m)
            rw [wks_length, HN.out] at e
            rwa [e] at hri
          case measure => simp [intOf]; omega
    · obtain rfl : m = N := by omega
      go_wp2
      have hpl : wks a.rows m = plusL a.rows := by unfold plusL; rw [HN.out]
      rw [hpl] at hr
      exact post_rel rfl rfl rfl ((d2.set_ 0 _).set_ 1 _) ⟨_, rfl, ⟨g, by rw [HPL.out], by omega, (hr.far (by simp; omega) _).far (by simp; omega) _⟩, (hBr.setCell (by simp) _).setCell (by simp) _⟩
set_option maxHeartbeats 1000000 in
theorem plus_bad (a : RA) (w : World) (hg : a.good w) (hok : a.ok = false) :
    Calls Tryd.prog 43 #[a.val] w (Ret w zeroR) := by
  have HG := Lib.hid hg
  have HO := Lib.hid hok
  clear hg hok
  unfold RA.val zeroR
  go_enter Tryd.func43, Tryd.ntmps43
  go_wp2_with (go_at_call 16; refine (check_bad HG.out.1 ?_ HO.out).mono ?_; exact HG.out.2.into (below_two _ _ _); rintro e w1 ⟨rfl, hb1⟩; obtain ⟨hz0, hz1⟩ := size_two hb1; have hb2 := (below_two w _ _).trans (hb1.mono (by simp only [World.size_alloc]; omega)); obtain ⟨hc, hf⟩ := bcell hb1)
  have x2' := RowT.new (w.alloc (.cells #[.int .i64 a.n, .slice a.A a.rows.length a.cap] 26)) 26 [.int .i64 0, .slice none 0 0]
  rw [World.size_alloc] at x2'
  have x2 := x2'.below hb1 (by simp only [World.size_alloc]; omega)
  exact post_rel rfl rfl rfl ((x2.set_ 0 _).set_ 1 _) ⟨rfl, (hb2.setCell (by simp) _).setCell (by simp) _⟩
end Go.Proofs.YtigdecmfieaacaaDoor
