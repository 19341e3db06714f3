/-
  Package rel: Of, Self and Turn of what may not be; Has.
-/
import Derived.Test.YtigdecmfieaacaaDoorOf
import Derived.Test.YtigdecmfieaacaaDoorTurn
namespace Go.Proofs.YtigdecmfieaacaaDoor
open Go Go.RowKit

theorem within_zero {i : Int} (A : Option Addr) (l c : Nat) (w : World) : Calls Tryd.prog 48 #[.agg #[.int .i64 0, .slice A l c], .int .i64 i] w (Ret w (.bool false)) := by
  have := within_any 0 i A l c w; rwa [decide_eq_false (by omega)] at this
set_option maxHeartbeats 2000000 in
theorem of_bad (n : Int) (A : Option Addr) (cap : Nat) (l : List (Int × Int)) (w : World) (h : ¬ (0 ≤ n ∧ n ≤ 64)) (hl : l.length ≤ 5000) (hr : Reads w w.heap.size 2 A l.length (prs l)) :
    Calls Tryd.prog 11 #[.int .i64 n, .slice A l.length cap] w (Ret w zeroR) := by
  have HR := Lib.hid hr
  have HH := Lib.hid h
  clear hr h
  unfold zeroR
  go_enter Tryd.func11, Tryd.ntmps11
  go_wp2_with (go_at_call 13; refine (none_bad n _ HH.out).mono ?_; rintro e w1 ⟨rfl, hb⟩; have hz := size_one hb)
  have x0 := ((RowT.new w 26 [.int .i64 0, .slice none 0 0]).below hb (by simp)).alloc (.cells #[.int .i64 0, .slice none 0 0] 26)
  have x1 := RowT.new w1 26 [.int .i64 0, .slice none 0 0]
  have hB : Below w.heap.size w w1 := (below_alloc w _).trans (hb.mono (by simp))
  have hB' := hB.alloc hB.size (.cells #[.int .i64 0, .slice none 0 0] 26)
  clear hB hb
  go_loopw [12] (fun i wr => ∃ k : Nat, i = .int .i64 k ∧ k ≤ l.length ∧ RowT wr w1.heap.size 26 [.int .i64 0, .slice none 0 0] ∧ RowT wr w.heap.size 26 [.int .i64 0, .slice none 0 0] ∧ Below w.heap.size w wr) (fun i _ => l.length - (intOf i).toNat)
  case atStart => exact ⟨0, rfl, by omega, x1, x0, hB'⟩
  case round =>
    obtain ⟨k, rfl, hk, d1, d0, hBr⟩ := hrel
    clear x0 x1 hB'
    by_cases hlt : k < l.length
    · obtain ⟨ad, p, rfl, hbk, hp, hc0, hc1⟩ := (HR.out.below hBr).p hlt
      have d1l := d1.lt
      have y1 := d1.alloc (.cells #[.int .i64 p.1, .int .i64 p.2] 28)
      have y2 := RowT.new wr 28 [.int .i64 p.1, .int .i64 p.2]
      have y0 := d0.alloc (.cells #[.int .i64 p.1, .int .i64 p.2] 28)
      have hBc := hBr.alloc hBr.size (.cells #[.int .i64 p.1, .int .i64 p.2] 28)
      obtain ⟨a0, a1, a2, a3⟩ := d1.two
      have HP := Lib.hid hp
      clear hp d0
      go_wp2_with (go_at_call 48; refine (within_zero _ _ _ _).mono ?_; rintro e w2 ⟨rfl, hb2⟩; replace y0 := y0.below hb2 y0.lt; replace y1 := y1.below hb2 y1.lt; replace y2 := y2.below hb2 y2.lt; replace hBc := hBc.trans (hb2.mono hBc.size); obtain ⟨a0, a1, a2, a3⟩ := y1.two; obtain ⟨b0, b1, b2, b3⟩ := y2.two)
      go_roundw
      case rel => exact ⟨k + 1, by go_num, by omega, y1, y0, hBc⟩
      case measure => simp [intOf]; omega
    · obtain rfl : k = l.length := by omega
      obtain ⟨a0, a1, a2, a3⟩ := d1.two
      obtain ⟨b0, b1, b2, b3⟩ := d0.two
      have hs := d1.lt
      go_wp2
      exact post_rel4 rfl rfl rfl ((d0.set_ 0 _).set_ 1 _) ⟨rfl, (hBr.setCell (by simp) _).setCell (by simp) _⟩
theorem self_bad (n : Int) (w : World) (h : ¬ (0 ≤ n ∧ n ≤ 64)) : Calls Tryd.prog 12 #[.int .i64 n] w (Ret w zeroR) := by
  have HH := Lib.hid h
  clear h
  unfold zeroR
  go_enter Tryd.func12, Tryd.ntmps12
  go_wp2_with (go_at_call 13; refine (none_bad n _ HH.out).mono ?_; rintro e w1 ⟨rfl, hb⟩; have hz := size_one hb)
  have x0 := ((RowT.new w 26 [.int .i64 0, .slice none 0 0]).below hb (by simp)).alloc (.cells #[.int .i64 0, .slice none 0 0] 26)
  have x1 := RowT.new w1 26 [.int .i64 0, .slice none 0 0]
  have hB : Below w.heap.size w w1 := (below_alloc w _).trans (hb.mono (by simp))
  have hB' := hB.alloc hB.size (.cells #[.int .i64 0, .slice none 0 0] 26)
  go_loopw [10] (fun i wr => i = .int .i64 0 ∧ RowT wr w1.heap.size 26 [.int .i64 0, .slice none 0 0] ∧ RowT wr w.heap.size 26 [.int .i64 0, .slice none 0 0] ∧ Below w.heap.size w wr) (fun i _ => 0)
  case atStart => exact ⟨rfl, x1, x0, hB'⟩
  case round =>
    obtain ⟨rfl, d1, d0, hBr⟩ := hrel
    clear x0 x1
    obtain ⟨a0, a1, a2, a3⟩ := d1.two
    obtain ⟨b0, b1, b2, b3⟩ := d0.two
    have hs := d1.lt
    go_wp2
    exact post_rel rfl rfl rfl ((d0.set_ 0 _).set_ 1 _) ⟨rfl, (hBr.setCell (by simp) _).setCell (by simp) _⟩
theorem turn_bad (a : RA) (w : World) (hg : a.good w) (hok : a.ok = false) : Calls Tryd.prog 41 #[a.val] w (Ret w zeroR) := by
  have HG := Lib.hid hg
  have HO := Lib.hid hok
  clear hg hok
  unfold RA.val zeroR
  go_enter Tryd.func41, Tryd.ntmps41
  go_wp2_with (go_at_call 16; refine (check_bad HG.out.1 ?_ HO.out).mono ?_; exact HG.out.2.into (below_two _ _ _); rintro e w1 ⟨rfl, hb1⟩; obtain ⟨hz0, hz1⟩ := size_two hb1; have hb2 := (below_two w _ _).trans (hb1.mono (by simp only [World.size_alloc]; omega)); obtain ⟨hc, hf⟩ := bcell hb1)
  have x2' := RowT.new (w.alloc (.cells #[.int .i64 a.n, .slice a.A a.rows.length a.cap] 26)) 26 [.int .i64 0, .slice none 0 0]
  rw [World.size_alloc] at x2'
  have x2 := x2'.below hb1 (by simp only [World.size_alloc]; omega)
  exact post_rel rfl rfl rfl ((x2.set_ 0 _).set_ 1 _) ⟨rfl, (hb2.setCell (by simp) _).setCell (by simp) _⟩
/-- Has: of a relation that may be, and two of its things, whether the pair is there. -/
def hasF (a : RA) (i j : Int) : Bool := a.ok && decide (0 ≤ i ∧ i < a.n) && decide (0 ≤ j ∧ j < a.n) && (a.rows.getD i.toNat 0).testBit j.toNat
theorem within_b {n i : Int} {b : Bool} (A : Option Addr) (l c : Nat) (w : World) (h : decide (0 ≤ i ∧ i < n) = b) : Calls Tryd.prog 48 #[.agg #[.int .i64 n, .slice A l c], .int .i64 i] w (Ret w (.bool b)) := by
  have := within_any n i A l c w; rwa [h] at this
set_option maxHeartbeats 2000000 in
theorem has_any (a : RA) (i j : Int) (w : World) (hg : a.good w) : Calls Tryd.prog 21 #[a.val, .int .i64 i, .int .i64 j] w (Ret w (.bool (hasF a i j))) := by
  have HG := Lib.hid hg
  clear hg
  obtain ⟨b, hb⟩ : ∃ b, hasF a i j = b := ⟨_, rfl⟩
  have HF := Lib.hid hb
  rw [hb]
  clear hb
  have hval : a.val = .agg #[.int .i64 a.n, .slice a.A a.rows.length a.cap] := rfl
  rw [hval]
  by_cases hok : a.ok = true
  · have HO := Lib.hid hok
    clear hok
    obtain ⟨b1, hb1⟩ : ∃ b1, decide (0 ≤ i ∧ i < a.n) = b1 := ⟨_, rfl⟩
    obtain ⟨b2, hb2⟩ : ∃ b2, decide (0 ≤ j ∧ j < a.n) = b2 := ⟨_, rfl⟩
    have HB1 := Lib.hid hb1
    have HB2 := Lib.hid hb2
    clear hb1 hb2
    cases b1 with
    | false =>
      go_enter Tryd.func21, Tryd.ntmps21
      go_wp2_with (first | (go_at_call 16; refine (check_ok HG.out.1 ?_ HO.out).mono ?_; exact HG.out.2.into (below_alloc _ _); rintro e w1 ⟨rfl, hb1⟩; have hz := size_one hb1; have x0 := (RowT.new w 26 [.int .i64 a.n, .slice a.A a.rows.length a.cap]).below hb1 (by simp); obtain ⟨a0, a1, a2, a3⟩ := x0.two; have hBc := (below_alloc w _).trans (hb1.mono (by simp))) | (go_at_call 48; refine (within_any _ _ _ _ _ _).mono ?_; (first | rw [HB1.out] | rw [HB2.out]); rintro e w2 ⟨rfl, hb2⟩; replace x0 := x0.below hb2 x0.lt; obtain ⟨a0, a1, a2, a3⟩ := x0.two; replace hBc := hBc.trans (hb2.mono hBc.size)))
      go_ret
      exact Ret.b (by rw [← HF.out, hasF, HB1.out]; simp) hBc
    | true =>
      cases b2 with
      | false =>
        go_enter Tryd.func21, Tryd.ntmps21
        go_wp2_with (first | (go_at_call 16; refine (check_ok HG.out.1 ?_ HO.out).mono ?_; exact HG.out.2.into (below_alloc _ _); rintro e w1 ⟨rfl, hb1⟩; have hz := size_one hb1; have x0 := (RowT.new w 26 [.int .i64 a.n, .slice a.A a.rows.length a.cap]).below hb1 (by simp); obtain ⟨a0, a1, a2, a3⟩ := x0.two; have hBc := (below_alloc w _).trans (hb1.mono (by simp))) | (go_at_call 48; refine (within_any _ _ _ _ _ _).mono ?_; (first | rw [HB1.out] | rw [HB2.out]); rintro e w2 ⟨rfl, hb2⟩; replace x0 := x0.below hb2 x0.lt; obtain ⟨a0, a1, a2, a3⟩ := x0.two; replace hBc := hBc.trans (hb2.mono hBc.size)))
        go_ret
        exact Ret.b (by rw [← HF.out, hasF, HB2.out]; simp) hBc
      | true =>
        have hn := HO.out
        simp only [RA.ok, okR, Bool.and_eq_true, decide_eq_true_eq] at hn
        have h1 := of_decide_eq_true HB1.out
        have h2 := of_decide_eq_true HB2.out
        obtain ⟨p, hp⟩ : ∃ p : Nat, i = p := ⟨i.toNat, by omega⟩
        obtain ⟨q, hq⟩ : ∃ q : Nat, j = q := ⟨j.toNat, by omega⟩
        subst hp hq
        have hpl : p < a.rows.length := by omega
        have hq64 : q < 64 := by omega
        obtain ⟨ad, x, hA, hbk, hx, hc⟩ := HG.out.2.u hpl
        have hxu := HG.out.1 x (List.mem_of_getElem? hx)
        have e : hasF a p q = x.testBit q := by
          rw [hasF, HB1.out, HB2.out, HO.out]
          simp [List.getD_eq_getElem?_getD, hx]
        have HE := Lib.hid (e.symm.trans HF.out)
        have HXU := Lib.hid hxu
        have hA' : a.A = some ad := hA
        have hcu : ∀ W, Below w.heap.size w W → W.cell? (ad.add p) = some (.int .u64 (x : Int)) := fun W h => (h.cell (by rw [block_of_add]; exact hbk)).trans hc
        have HC := Lib.hid hcu
        clear hx hc hxu e hA hcu hn h1 h2
        have hr := HG.out.2
        rw [hA'] at hr ⊢
        have HR := Lib.hid hr
        have HU := Lib.hid HG.out.1
        clear hr
        go_enter Tryd.func21, Tryd.ntmps21
        go_wp2_with (first | (go_at_call 16; refine (check_ok HU.out ?_ HO.out).mono ?_; exact HR.out.into (below_alloc _ _); rintro e w1 ⟨rfl, hb1⟩; have hz := size_one hb1; have x0 := (RowT.new w 26 [.int .i64 a.n, .slice (some ad) a.rows.length a.cap]).below hb1 (by simp); obtain ⟨a0, a1, a2, a3⟩ := x0.two; have hBc := (below_alloc w _).trans (hb1.mono (by simp)); have hce := HC.out _ hBc) | (go_at_call 48; refine (within_any _ _ _ _ _ _).mono ?_; (first | rw [HB1.out] | rw [HB2.out]); rintro e w2 ⟨rfl, hb2⟩; replace x0 := x0.below hb2 x0.lt; obtain ⟨a0, a1, a2, a3⟩ := x0.two; replace hBc := hBc.trans (hb2.mono hBc.size); have hce := HC.out _ hBc) | (go_at_call 47; refine (holds_any x q _ HXU.out hq64).mono ?_; rintro e w2 ⟨rfl, hb2⟩; replace hBc := hBc.trans (hb2.mono hBc.size); have hce := HC.out _ hBc))
        go_ret
        exact Ret.b HE.out hBc
  · have HO := Lib.hid (show a.ok = false by simpa using hok)
    go_enter Tryd.func21, Tryd.ntmps21
    go_wp2_with (go_at_call 16; refine (check_bad HG.out.1 ?_ HO.out).mono ?_; exact HG.out.2.into (below_alloc _ _); rintro e w1 ⟨rfl, hb1⟩)
    go_ret
    exact Ret.b (by rw [← HF.out, hasF, HO.out]; simp) ((below_alloc w _).trans (hb1.mono (by simp)))
end Go.Proofs.YtigdecmfieaacaaDoor
