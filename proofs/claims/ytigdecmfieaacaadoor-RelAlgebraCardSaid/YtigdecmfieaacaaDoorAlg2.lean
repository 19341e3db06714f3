/-
  RelAlgebra: of relations that may not be, or of unlike numbers, it answers true.
-/
import Derived.Test.YtigdecmfieaacaaDoorAlg
namespace Go.Proofs.YtigdecmfieaacaaDoor
open Go Go.RowKit

set_option maxHeartbeats 2000000 in
theorem alg_x1 (a b c : RA) (w : World) (hT : Tab w) (ha : a.good w) (hb : b.good w) (hc : c.good w) (oa : a.ok = false) :
    Calls Tryd.prog 6 #[a.val, b.val, c.val] w (Ret w (.bool true)) := by
  have aO := Lib.hid oa
  clear oa
  have HT := Lib.hid hT
  have aG := Lib.hid ha
  have bG := Lib.hid hb
  have cG := Lib.hid hc
  clear hT ha hb hc
  have hB0 := below_three w (.cells a.cells.toArray 26) (.cells b.cells.toArray 26) (.cells c.cells.toArray 26)
  have q0 := ((RowT.new w 26 a.cells).alloc (.cells b.cells.toArray 26)).alloc (.cells c.cells.toArray 26)
  have q1 := (RowT.new (w.alloc (.cells a.cells.toArray 26)) 26 b.cells).alloc (.cells c.cells.toArray 26)
  have q2 := RowT.new ((w.alloc (.cells a.cells.toArray 26)).alloc (.cells b.cells.toArray 26)) 26 c.cells
  simp only [World.size_alloc] at q1 q2
  simp only [RA.cells] at hB0 q0 q1 q2
  unfold RA.val
  go_enter Tryd.func6, Tryd.ntmps6
  go_wp2_with (first | (go_at_call 9; refine (lives_yes _ (HT.out.on hB0)).mono ?_; rintro e w1 ⟨rfl, hb1⟩; have hBc := hB0.next hb1; have x0 := q0.below hb1 q0.lt; have x1 := q1.below hb1 q1.lt; have x2 := q2.below hb1 q2.lt; obtain ⟨a0, a1, a2, a3⟩ := x0.two; obtain ⟨b0, b1, b2, b3⟩ := x1.two; obtain ⟨c0, c1, c2, c3⟩ := x2.two) | (go_at_call 16; refine (check_bad aG.out.1 (aG.out.on hBc).2 aO.out).mono ?_; rintro e w2 ⟨rfl, hb2⟩; replace hBc := hBc.next hb2; replace x0 := x0.below hb2 x0.lt; replace x1 := x1.below hb2 x1.lt; replace x2 := x2.below hb2 x2.lt; obtain ⟨a0, a1, a2, a3⟩ := x0.two; obtain ⟨b0, b1, b2, b3⟩ := x1.two; obtain ⟨c0, c1, c2, c3⟩ := x2.two))
  go_ret
  exact Ret.b rfl hBc
set_option maxHeartbeats 2000000 in
theorem alg_x2 (a b c : RA) (w : World) (hT : Tab w) (ha : a.good w) (hb : b.good w) (hc : c.good w) (oa : a.ok = true) (ob : b.ok = false) :
    Calls Tryd.prog 6 #[a.val, b.val, c.val] w (Ret w (.bool true)) := by
  have aO := Lib.hid oa
  clear oa
  have bO := Lib.hid ob
  clear ob
  have HT := Lib.hid hT
  have aG := Lib.hid ha
  have bG := Lib.hid hb
  have cG := Lib.hid hc
  clear hT ha hb hc
  have hB0 := below_three w (.cells a.cells.toArray 26) (.cells b.cells.toArray 26) (.cells c.cells.toArray 26)
  have q0 := ((RowT.new w 26 a.cells).alloc (.cells b.cells.toArray 26)).alloc (.cells c.cells.toArray 26)
  have q1 := (RowT.new (w.alloc (.cells a.cells.toArray 26)) 26 b.cells).alloc (.cells c.cells.toArray 26)
  have q2 := RowT.new ((w.alloc (.cells a.cells.toArray 26)).alloc (.cells b.cells.toArray 26)) 26 c.cells
  simp only [World.size_alloc] at q1 q2
  simp only [RA.cells] at hB0 q0 q1 q2
  unfold RA.val
  go_enter Tryd.func6, Tryd.ntmps6
  go_wp2_with (first | (go_at_call 9; refine (lives_yes _ (HT.out.on hB0)).mono ?_; rintro e w1 ⟨rfl, hb1⟩; have hBc := hB0.next hb1; have x0 := q0.below hb1 q0.lt; have x1 := q1.below hb1 q1.lt; have x2 := q2.below hb1 q2.lt; obtain ⟨a0, a1, a2, a3⟩ := x0.two; obtain ⟨b0, b1, b2, b3⟩ := x1.two; obtain ⟨c0, c1, c2, c3⟩ := x2.two) | (go_at_call 16; have _m := w2; refine (check_bad bG.out.1 (bG.out.on hBc).2 bO.out).mono ?_; rintro e w3 ⟨rfl, hb3⟩; replace hBc := hBc.next hb3; replace x0 := x0.below hb3 x0.lt; replace x1 := x1.below hb3 x1.lt; replace x2 := x2.below hb3 x2.lt; obtain ⟨a0, a1, a2, a3⟩ := x0.two; obtain ⟨b0, b1, b2, b3⟩ := x1.two; obtain ⟨c0, c1, c2, c3⟩ := x2.two) | (go_at_call 16; refine (check_ok aG.out.1 (aG.out.on hBc).2 aO.out).mono ?_; rintro e w2 ⟨rfl, hb2⟩; replace hBc := hBc.next hb2; replace x0 := x0.below hb2 x0.lt; replace x1 := x1.below hb2 x1.lt; replace x2 := x2.below hb2 x2.lt; obtain ⟨a0, a1, a2, a3⟩ := x0.two; obtain ⟨b0, b1, b2, b3⟩ := x1.two; obtain ⟨c0, c1, c2, c3⟩ := x2.two))
  go_ret
  exact Ret.b rfl hBc
set_option maxHeartbeats 2000000 in
theorem alg_x3 (a b c : RA) (w : World) (hT : Tab w) (ha : a.good w) (hb : b.good w) (hc : c.good w) (oa : a.ok = true) (ob : b.ok = true) (oc : c.ok = false) :
    Calls Tryd.prog 6 #[a.val, b.val, c.val] w (Ret w (.bool true)) := by
  have aO := Lib.hid oa
  clear oa
  have bO := Lib.hid ob
  clear ob
  have cO := Lib.hid oc
  clear oc
  have HT := Lib.hid hT
  have aG := Lib.hid ha
  have bG := Lib.hid hb
  have cG := Lib.hid hc
  clear hT ha hb hc
  have hB0 := below_three w (.cells a.cells.toArray 26) (.cells b.cells.toArray 26) (.cells c.cells.toArray 26)
  have q0 := ((RowT.new w 26 a.cells).alloc (.cells b.cells.toArray 26)).alloc (.cells c.cells.toArray 26)
  have q1 := (RowT.new (w.alloc (.cells a.cells.toArray 26)) 26 b.cells).alloc (.cells c.cells.toArray 26)
  have q2 := RowT.new ((w.alloc (.cells a.cells.toArray 26)).alloc (.cells b.cells.toArray 26)) 26 c.cells
  simp only [World.size_alloc] at q1 q2
  simp only [RA.cells] at hB0 q0 q1 q2
  unfold RA.val
  go_enter Tryd.func6, Tryd.ntmps6
  go_wp2_with (first | (go_at_call 9; refine (lives_yes _ (HT.out.on hB0)).mono ?_; rintro e w1 ⟨rfl, hb1⟩; have hBc := hB0.next hb1; have x0 := q0.below hb1 q0.lt; have x1 := q1.below hb1 q1.lt; have x2 := q2.below hb1 q2.lt; obtain ⟨a0, a1, a2, a3⟩ := x0.two; obtain ⟨b0, b1, b2, b3⟩ := x1.two; obtain ⟨c0, c1, c2, c3⟩ := x2.two) | (go_at_call 16; have _m := w3; refine (check_bad cG.out.1 (cG.out.on hBc).2 cO.out).mono ?_; rintro e w4 ⟨rfl, hb4⟩; replace hBc := hBc.next hb4; replace x0 := x0.below hb4 x0.lt; replace x1 := x1.below hb4 x1.lt; replace x2 := x2.below hb4 x2.lt; obtain ⟨a0, a1, a2, a3⟩ := x0.two; obtain ⟨b0, b1, b2, b3⟩ := x1.two; obtain ⟨c0, c1, c2, c3⟩ := x2.two) | (go_at_call 16; have _m := w2; refine (check_ok bG.out.1 (bG.out.on hBc).2 bO.out).mono ?_; rintro e w3 ⟨rfl, hb3⟩; replace hBc := hBc.next hb3; replace x0 := x0.below hb3 x0.lt; replace x1 := x1.below hb3 x1.lt; replace x2 := x2.below hb3 x2.lt; obtain ⟨a0, a1, a2, a3⟩ := x0.two; obtain ⟨b0, b1, b2, b3⟩ := x1.two; obtain ⟨c0, c1, c2, c3⟩ := x2.two) | (go_at_call 16; refine (check_ok aG.out.1 (aG.out.on hBc).2 aO.out).mono ?_; rintro e w2 ⟨rfl, hb2⟩; replace hBc := hBc.next hb2; replace x0 := x0.below hb2 x0.lt; replace x1 := x1.below hb2 x1.lt; replace x2 := x2.below hb2 x2.lt; obtain ⟨a0, a1, a2, a3⟩ := x0.two; obtain ⟨b0, b1, b2, b3⟩ := x1.two; obtain ⟨c0, c1, c2, c3⟩ := x2.two))
  go_ret
  exact Ret.b rfl hBc
set_option maxHeartbeats 2000000 in
theorem alg_x4 (a b c : RA) (w : World) (hT : Tab w) (ha : a.good w) (hb : b.good w) (hc : c.good w) (oa : a.ok = true) (ob : b.ok = true) (oc : c.ok = true) (nab : (a.n != b.n) = true) :
    Calls Tryd.prog 6 #[a.val, b.val, c.val] w (Ret w (.bool true)) := by
  have aO := Lib.hid oa
  clear oa
  have bO := Lib.hid ob
  clear ob
  have cO := Lib.hid oc
  clear oc
  have HT := Lib.hid hT
  have aG := Lib.hid ha
  have bG := Lib.hid hb
  have cG := Lib.hid hc
  clear hT ha hb hc
  have hB0 := below_three w (.cells a.cells.toArray 26) (.cells b.cells.toArray 26) (.cells c.cells.toArray 26)
  have q0 := ((RowT.new w 26 a.cells).alloc (.cells b.cells.toArray 26)).alloc (.cells c.cells.toArray 26)
  have q1 := (RowT.new (w.alloc (.cells a.cells.toArray 26)) 26 b.cells).alloc (.cells c.cells.toArray 26)
  have q2 := RowT.new ((w.alloc (.cells a.cells.toArray 26)).alloc (.cells b.cells.toArray 26)) 26 c.cells
  simp only [World.size_alloc] at q1 q2
  simp only [RA.cells] at hB0 q0 q1 q2
  unfold RA.val
  go_enter Tryd.func6, Tryd.ntmps6
  go_wp2_with (first | (go_at_call 9; refine (lives_yes _ (HT.out.on hB0)).mono ?_; rintro e w1 ⟨rfl, hb1⟩; have hBc := hB0.next hb1; have x0 := q0.below hb1 q0.lt; have x1 := q1.below hb1 q1.lt; have x2 := q2.below hb1 q2.lt; obtain ⟨a0, a1, a2, a3⟩ := x0.two; obtain ⟨b0, b1, b2, b3⟩ := x1.two; obtain ⟨c0, c1, c2, c3⟩ := x2.two) | (go_at_call 16; have _m := w3; refine (check_ok cG.out.1 (cG.out.on hBc).2 cO.out).mono ?_; rintro e w4 ⟨rfl, hb4⟩; replace hBc := hBc.next hb4; replace x0 := x0.below hb4 x0.lt; replace x1 := x1.below hb4 x1.lt; replace x2 := x2.below hb4 x2.lt; obtain ⟨a0, a1, a2, a3⟩ := x0.two; obtain ⟨b0, b1, b2, b3⟩ := x1.two; obtain ⟨c0, c1, c2, c3⟩ := x2.two) | (go_at_call 16; have _m := w2; refine (check_ok bG.out.1 (bG.out.on hBc).2 bO.out).mono ?_; rintro e w3 ⟨rfl, hb3⟩; replace hBc := hBc.next hb3; replace x0 := x0.below hb3 x0.lt; replace x1 := x1.below hb3 x1.lt; replace x2 := x2.below hb3 x2.lt; obtain ⟨a0, a1, a2, a3⟩ := x0.two; obtain ⟨b0, b1, b2, b3⟩ := x1.two; obtain ⟨c0, c1, c2, c3⟩ := x2.two) | (go_at_call 16; refine (check_ok aG.out.1 (aG.out.on hBc).2 aO.out).mono ?_; rintro e w2 ⟨rfl, hb2⟩; replace hBc := hBc.next hb2; replace x0 := x0.below hb2 x0.lt; replace x1 := x1.below hb2 x1.lt; replace x2 := x2.below hb2 x2.lt; obtain ⟨a0, a1, a2, a3⟩ := x0.two; obtain ⟨b0, b1, b2, b3⟩ := x1.two; obtain ⟨c0, c1, c2, c3⟩ := x2.two))
  go_ret
  exact Ret.b rfl hBc
set_option maxHeartbeats 2000000 in
theorem alg_x5 (a b c : RA) (w : World) (hT : Tab w) (ha : a.good w) (hb : b.good w) (hc : c.good w) (oa : a.ok = true) (ob : b.ok = true) (oc : c.ok = true) (nab : (a.n != b.n) = false) (nbc : (b.n != c.n) = true) :
    Calls Tryd.prog 6 #[a.val, b.val, c.val] w (Ret w (.bool true)) := by
  have aO := Lib.hid oa
  clear oa
  have bO := Lib.hid ob
  clear ob
  have cO := Lib.hid oc
  clear oc
  have HT := Lib.hid hT
  have aG := Lib.hid ha
  have bG := Lib.hid hb
  have cG := Lib.hid hc
  clear hT ha hb hc
  have hB0 := below_three w (.cells a.cells.toArray 26) (.cells b.cells.toArray 26) (.cells c.cells.toArray 26)
  have q0 := ((RowT.new w 26 a.cells).alloc (.cells b.cells.toArray 26)).alloc (.cells c.cells.toArray 26)
  have q1 := (RowT.new (w.alloc (.cells a.cells.toArray 26)) 26 b.cells).alloc (.cells c.cells.toArray 26)
  have q2 := RowT.new ((w.alloc (.cells a.cells.toArray 26)).alloc (.cells b.cells.toArray 26)) 26 c.cells
  simp only [World.size_alloc] at q1 q2
  simp only [RA.cells] at hB0 q0 q1 q2
  unfold RA.val
  go_enter Tryd.func6, Tryd.ntmps6
  go_wp2_with (first | (go_at_call 9; refine (lives_yes _ (HT.out.on hB0)).mono ?_; rintro e w1 ⟨rfl, hb1⟩; have hBc := hB0.next hb1; have x0 := q0.below hb1 q0.lt; have x1 := q1.below hb1 q1.lt; have x2 := q2.below hb1 q2.lt; obtain ⟨a0, a1, a2, a3⟩ := x0.two; obtain ⟨b0, b1, b2, b3⟩ := x1.two; obtain ⟨c0, c1, c2, c3⟩ := x2.two) | (go_at_call 16; have _m := w3; refine (check_ok cG.out.1 (cG.out.on hBc).2 cO.out).mono ?_; rintro e w4 ⟨rfl, hb4⟩; replace hBc := hBc.next hb4; replace x0 := x0.below hb4 x0.lt; replace x1 := x1.below hb4 x1.lt; replace x2 := x2.below hb4 x2.lt; obtain ⟨a0, a1, a2, a3⟩ := x0.two; obtain ⟨b0, b1, b2, b3⟩ := x1.two; obtain ⟨c0, c1, c2, c3⟩ := x2.two) | (go_at_call 16; have _m := w2; refine (check_ok bG.out.1 (bG.out.on hBc).2 bO.out).mono ?_; rintro e w3 ⟨rfl, hb3⟩; replace hBc := hBc.next hb3; replace x0 := x0.below hb3 x0.lt; replace x1 := x1.below hb3 x1.lt; replace x2 := x2.below hb3 x2.lt; obtain ⟨a0, a1, a2, a3⟩ := x0.two; obtain ⟨b0, b1, b2, b3⟩ := x1.two; obtain ⟨c0, c1, c2, c3⟩ := x2.two) | (go_at_call 16; refine (check_ok aG.out.1 (aG.out.on hBc).2 aO.out).mono ?_; rintro e w2 ⟨rfl, hb2⟩; replace hBc := hBc.next hb2; replace x0 := x0.below hb2 x0.lt; replace x1 := x1.below hb2 x1.lt; replace x2 := x2.below hb2 x2.lt; obtain ⟨a0, a1, a2, a3⟩ := x0.two; obtain ⟨b0, b1, b2, b3⟩ := x1.two; obtain ⟨c0, c1, c2, c3⟩ := x2.two))
  go_ret
  exact Ret.b rfl hBc
theorem alg_yes (a b c : RA) (w : World) (hT : Tab w) (ha : a.good w) (hb : b.good w) (hc : c.good w) :
    Calls Tryd.prog 6 #[a.val, b.val, c.val] w (Ret w (.bool true)) := by
  cases oa : a.ok with
  | false => exact alg_x1 a b c w hT ha hb hc oa
  | true =>
    cases ob : b.ok with
    | false => exact alg_x2 a b c w hT ha hb hc oa ob
    | true =>
      cases oc : c.ok with
      | false => exact alg_x3 a b c w hT ha hb hc oa ob oc
      | true =>
        cases nab : (a.n != b.n) with
        | true => exact alg_x4 a b c w hT ha hb hc oa ob oc nab
        | false =>
          cases nbc : (b.n != c.n) with
          | true => exact alg_x5 a b c w hT ha hb hc oa ob oc nab nbc
          | false => exact alg_ok a b c w hT ha hb hc oa ob oc (by simpa using nab) (by simpa using nbc)
end Go.Proofs.YtigdecmfieaacaaDoor
