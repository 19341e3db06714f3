/-
  The statements' own examples.
-/
import Derived.Test.YtigdecmfieaacaaDoorRels
namespace Go.Proofs.YtigdecmfieaacaaDoor
open Go Go.RowKit

set_option maxHeartbeats 2000000 in
theorem lives_yes (w : World) (hT : Tab w) : Calls Tryd.prog 9 #[] w (Ret w (.bool true)) := by
  have HT := Lib.hid hT
  clear hT
  go_enter Tryd.func9, Tryd.ntmps9
  go_wp2_with (first | (go_at_call 27; have _m := w7; go_loud (refine (image_c (a := a7) (m := 1) (t := 6) _ (by rw [hp7.out]; rfl) (HT.out.on hBc) (by decide) hg7.out).mono ?_; rintro e w8 ⟨rfl, hb8⟩; replace hBc := hBc.next hb8)) | (go_at_call 11; have _m := w6; go_loud (refine (of_c (l := [(0, 1), (0, 2)]) (p := ⟨3, [6, 0, 0]⟩) 2 _ rfl (by decide) ?_).mono ?_; exact (RowT.new w6 28 (prs [(0, 1), (0, 2)])).reads2; rintro e w7 ⟨a7, rfl, hp7, hg7, hb7⟩; replace hBc := hBc.al.next hb7)) | (go_at_call 25; have _m := w5; go_loud (refine (ints_yes (xs := [1, 3, 0, 2]) (ys := [1, 3, 0, 2]) _ _ _ _ _ rfl (by decide) (hr4.out.into ((hB4.next hb5).al)) (RowT.new w5 3 ([1, 3, 0, 2].map I)).reads).mono ?_; rintro e w6 ⟨rfl, hb6⟩; replace hBc := hBc.al.next hb6)) | (go_at_call 14; have _m := w4; go_loud (refine (kitRel_yes (a := a2) (b := ⟨3, some ⟨w4.heap.size, 0, none⟩, 3, [6, 4, 0]⟩) _ (by rw [hp2.out]; rfl) (by rw [show a2.rows = [6, 4, 0] from congrArg PR.rows hp2.out]; decide) (hg2.out.on hB3.al) ⟨(show ∀ x ∈ [6, 4, 0], x < 18446744073709551616 by decide), (RowT.new w4 37 ([6, 4, 0].map U)).reads⟩).mono ?_; rintro e w5 ⟨rfl, hb5⟩; have hB4 := below_alloc w4 (.cells ([6, 4, 0].map U).toArray 37); replace hBc := hBc.al.next hb5)) | (go_at_call 23; have _m := w3; go_loud (refine (sort_c (a := a3) (l := [1, 3, 0, 2]) (b := true) _ (by rw [hp3.out]; decide) (HT.out.on hBc) hg3.out).mono ?_; rintro e w4 ⟨A4, c4, rfl, hr4, hb4⟩; replace hBc := hBc.next hb4; replace x2 := x2.below hb4 x2.lt; have hB3 := hB2.next hb4; obtain ⟨e0, e1, e2, e3⟩ := x2.two; have hy4 := x2.lt)) | (go_at_call 11; have _m := w2; go_loud (refine (of_c (l := [(3, 0), (0, 2)]) (p := ⟨4, [4, 0, 0, 1]⟩) 2 _ rfl (by decide) ?_).mono ?_; exact (RowT.newAt (by simp) 28 (prs [(3, 0), (0, 2)])).reads2; rintro e w3 ⟨a3, rfl, hp3, hg3, hb3⟩; replace hBc := hBc.al.al.next hb3; have x2 := ((RowT.new w2 26 [.int .i64 a2.n, .slice a2.A a2.rows.length a2.cap]).alloc _).below hb3 (by simp only [World.size_alloc]; omega); have hy := x2.lt; have hB2 := ((below_alloc w2 (.cells #[.int .i64 a2.n, .slice a2.A a2.rows.length a2.cap] 26)).al (o := .cells (prs [(3, 0), (0, 2)]).toArray 28)).next hb3)) | (go_at_call 43; have _m := w1; go_loud (refine (plus_c (a := a1) (p := ⟨3, [6, 4, 0]⟩) _ (by rw [hp1.out]; rfl) hg1.out).mono ?_; rintro e w2 ⟨a2, rfl, hp2, hg2, hb2⟩; replace hBc := hBc.next hb2)) | (go_at_call 11; go_loud (refine (of_c (l := [(0, 1), (1, 2)]) (p := ⟨3, [2, 4, 0]⟩) 2 _ rfl (by decide) ?_).mono ?_; exact (RowT.new w 28 (prs [(0, 1), (1, 2)])).reads2; rintro e w1 ⟨a1, rfl, hp1, hg1, hb1⟩; have hBc := (below_alloc w _).next hb1)))
  go_ret
  exact Ret.b rfl hBc
end Go.Proofs.YtigdecmfieaacaaDoor
