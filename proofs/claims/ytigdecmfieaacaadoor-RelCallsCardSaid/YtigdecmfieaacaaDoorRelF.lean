/-
  Package rel: And, Less.
-/
import Derived.Test.YtigdecmfieaacaaDoorRelE
namespace Go.Proofs.YtigdecmfieaacaaDoor
open Go Go.RowKit

/-- What two relations handed to a call look like behind the result's block and a slice of both. -/
theorem two_boxes4 (a b : RA) (w : World) (ha : a.good w) (hb : b.good w) (W : World)
    (hW : W = (((w.alloc (.cells #[.int .i64 a.n, .slice a.A a.rows.length a.cap] 26)).alloc (.cells #[.int .i64 b.n, .slice b.A b.rows.length b.cap] 26)).alloc (.cells #[.int .i64 0, .slice none 0 0] 26)).alloc (.cells #[.int .i64 a.n, .slice a.A a.rows.length a.cap, .int .i64 b.n, .slice b.A b.rows.length b.cap] 26)) :
    RowT W w.heap.size 26 [.int .i64 a.n, .slice a.A a.rows.length a.cap] ∧ RowT W (w.heap.size + 1) 26 [.int .i64 b.n, .slice b.A b.rows.length b.cap] ∧
    (RowT W (w.heap.size + 1 + 1 + 1) 26 [.int .i64 a.n, .slice a.A a.rows.length a.cap, .int .i64 b.n, .slice b.A b.rows.length b.cap] ∧ RowT W (w.heap.size + 1 + 1) 26 [.int .i64 0, .slice none 0 0]) ∧ Below w.heap.size w W ∧ a.good W ∧ b.good W := by
  subst hW
  have r1 := ((RowT.new (w.alloc (.cells #[.int .i64 a.n, .slice a.A a.rows.length a.cap] 26)) 26 [.int .i64 b.n, .slice b.A b.rows.length b.cap]).alloc (.cells #[.int .i64 0, .slice none 0 0] 26)).alloc (.cells #[.int .i64 a.n, .slice a.A a.rows.length a.cap, .int .i64 b.n, .slice b.A b.rows.length b.cap] 26)
  have r3 := (RowT.new ((w.alloc (.cells #[.int .i64 a.n, .slice a.A a.rows.length a.cap] 26)).alloc (.cells #[.int .i64 b.n, .slice b.A b.rows.length b.cap] 26)) 26 [.int .i64 0, .slice none 0 0]).alloc (.cells #[.int .i64 a.n, .slice a.A a.rows.length a.cap, .int .i64 b.n, .slice b.A b.rows.length b.cap] 26)
  have r2 := RowT.new (((w.alloc (.cells #[.int .i64 a.n, .slice a.A a.rows.length a.cap] 26)).alloc (.cells #[.int .i64 b.n, .slice b.A b.rows.length b.cap] 26)).alloc (.cells #[.int .i64 0, .slice none 0 0] 26)) 26 [.int .i64 a.n, .slice a.A a.rows.length a.cap, .int .i64 b.n, .slice b.A b.rows.length b.cap]
  simp only [World.size_alloc] at r1 r2 r3
  have hB : Below w.heap.size w ((((w.alloc (.cells #[.int .i64 a.n, .slice a.A a.rows.length a.cap] 26)).alloc (.cells #[.int .i64 b.n, .slice b.A b.rows.length b.cap] 26)).alloc (.cells #[.int .i64 0, .slice none 0 0] 26)).alloc (.cells #[.int .i64 a.n, .slice a.A a.rows.length a.cap, .int .i64 b.n, .slice b.A b.rows.length b.cap] 26)) := (below_three w _ _ _).alloc (by simp only [World.size_alloc]; omega) _
  exact ⟨(((RowT.new w 26 [.int .i64 a.n, .slice a.A a.rows.length a.cap]).alloc _).alloc _).alloc _, r1, ⟨r2, r3⟩, hB, ha.on hB, hb.on hB⟩

theorem post_rel4 {fn : Func} {R : Ending → World → Prop} {a : Act} {W : World} {b : Nat} {v0 v1 : Value} (hf : fn.results = #[.cell 4 26]) (hd : a.defers = []) (hp : a.tmps[4]? = some (.pointer (some ⟨b, 0, none⟩)))
    (hrow : RowT W b 26 [v0, v1]) (h : R (.returned (.agg #[v0, v1])) W) : bodyPost Tryd.prog fn R .ret a W := by
  have h0 : W.cell? ⟨b, 0, none⟩ = some v0 := hrow.cell 0
  have h1 : W.cell? ⟨b, 1, none⟩ = some v1 := hrow.cell 1
  exact bodyPost_ret (v := .agg #[v0, v1]) (by simp [results, hf, go_sem, hp, h0, h1]) hd h

def andF (a b : RA) (i : Nat) : Nat := a.rows.getD i 0 &&& b.rows.getD i 0
set_option maxHeartbeats 1000000 in
theorem and_ok (a b : RA) (w : World) (ha : a.good w) (hb : b.good w) (hal : alikeL [a, b] = true) :
    Calls Tryd.prog 36 #[a.val, b.val] w (RetQ w fun v w' => NewR w.heap.size ((List.range a.rows.length).map (andF a b)) v w') := by
  obtain ⟨_, _, hn, _, hbl, h64⟩ := alike_len hal
  obtain ⟨N, hN⟩ : ∃ N, a.rows.length = N := ⟨_, rfl⟩
  have HA := Lib.hid ha
  have HB := Lib.hid hb
  have HAL := Lib.hid hal
  have HBL := Lib.hid hbl
  have HN := Lib.hid hN
  have HI := Lib.hid hn
  clear ha hb hal hbl hn
  rw [hN] at h64 ⊢
  clear hN
  have hNN : ∀ w, Calls Tryd.prog 13 #[.int .i64 a.n] w (RetQ w fun v w' => ∃ g, v = .agg #[.int .i64 N, .slice (some ⟨g, 0, none⟩) N N] ∧ w.heap.size ≤ g ∧ RowT w' g 37 ((List.replicate N 0).map U)) := fun w => by
    rw [← HI.out, HN.out]; exact none_ok N w h64
  have HNN := Lib.hid hNN
  clear hNN
  unfold RA.val
  go_enter Tryd.func36, Tryd.ntmps36
  go_wp2_with (first | (go_at_call 50; obtain ⟨r0, r1, r2, hB, ga, gb⟩ := two_boxes4 a b w HA.out HB.out _ rfl; refine (alike_two a b true _ _ HAL.out r2.1 ga gb).mono ?_; rintro e w1 ⟨rfl, hb1⟩; have hb2 := hB.trans (hb1.mono hB.size); obtain ⟨p0, p1, _, _⟩ := (r0.below hb1 (by simp only [World.size_alloc]; omega)).two; obtain ⟨q0, q1, _, _⟩ := (r1.below hb1 (by simp only [World.size_alloc]; omega)).two; have hz := hb1.size; simp only [World.size_alloc] at hz; have hz0 : w.heap.size < w1.heap.size := (by omega); have hz1 : w.heap.size + 1 < w1.heap.size := (by omega); have hz2 : w.heap.size + 1 + 1 < w1.heap.size := (by omega)) | (go_at_call 13; refine (HNN.out _).mono ?_; rintro e w2 ⟨v, rfl, ⟨g, rfl, hg, hrow⟩, hb3⟩; obtain ⟨hc2, hf2⟩ := bcell hb3; have hy := hb3.size; have hy0 : w.heap.size < w2.heap.size := (by omega); have hy1 : w.heap.size + 1 < w2.heap.size := (by omega); have hy2 : w.heap.size + 1 + 1 < w2.heap.size := (by omega)))
  obtain ⟨_, z0⟩ := r2
  have x0 := (r0.below hb1 (by simp only [World.size_alloc]; omega)).below hb3 hz0
  have x1 := (r1.below hb1 (by simp only [World.size_alloc]; omega)).below hb3 hz1
  have x2 := (z0.below hb1 (by simp only [World.size_alloc]; omega)).below hb3 hz2
  have hB2 : Below w.heap.size w w2 := hb2.trans (hb3.mono hb2.size)
  have hgl := hrow.lt
  clear r0 r1 z0 p0 p1 q0 q1 hc2 hf2 ga gb hb1 hb3 hb2 hB
  go_loopw [19] (fun i wr => ∃ k : Nat, i = .int .i64 k ∧ k ≤ N ∧ RowT wr g 37 ((upTo N k (andF a b)).map U) ∧ RowT wr w.heap.size 26 [.int .i64 a.n, .slice a.A a.rows.length a.cap] ∧ RowT wr (w.heap.size + 1) 26 [.int .i64 b.n, .slice b.A b.rows.length b.cap] ∧
      RowT wr (w.heap.size + 1 + 1) 26 [.int .i64 0, .slice none 0 0] ∧ RowT wr w2.heap.size 26 [.int .i64 N, .slice (some ⟨g, 0, none⟩) N N] ∧ Below w.heap.size w wr) (fun i _ => N - (intOf i).toNat)
  case atStart => exact ⟨0, rfl, by omega, by rw [upTo_zero]; exact hrow.alloc _, x0.alloc _, x1.alloc _, x2.alloc _, RowT.new w2 26 [.int .i64 N, .slice (some ⟨g, 0, none⟩) N N], hB2.alloc hB2.size _⟩
  case round =>
    obtain ⟨k, rfl, hk, hr, d0, d1, d2, d3, hBr⟩ := hrel
    clear hrow x0 x1 x2 hB2
    obtain ⟨a0, a1, _, _⟩ := d0.two
    obtain ⟨b0, b1, _, _⟩ := d1.two
    obtain ⟨c0, c1, c2, c3⟩ := d2.two
    obtain ⟨e0, e1, _, _⟩ := d3.two
    by_cases hlt : k < N
    · have hka : k < a.rows.length := by have := HN.out; omega
      have hkb : k < b.rows.length := by have := HN.out; have := HBL.out; omega
      obtain ⟨ad, x, hA, hbk, hx, hcx⟩ := (HA.out.2.below hBr).u hka
      obtain ⟨ae, y, hE, hbl, hy, hcy⟩ := (HB.out.2.below hBr).u hkb
      have hxu := HA.out.1 x (List.mem_of_getElem? hx)
      have hyu := HB.out.1 y (List.mem_of_getElem? hy)
      have hF : andF a b k = x &&& y := by simp [andF, List.getD_eq_getElem?_getD, hx, hy]
      have HF := Lib.hid hF
      have HXU := Lib.hid hxu
      have HYU := Lib.hid hyu
      have hck : wr.cell? ⟨g, k, none⟩ = some (.int .u64 ((0 : Nat) : Int)) := by
        rw [hr.cell k, List.getElem?_map, upTo_get _ hlt, if_neg (by omega)]; rfl
      have hfk := hr.frozen k
      rw [hA] at a1
      rw [hE] at b1
      clear hx hy hF hxu hyu hA hE
      go_wp2
      go_region
      go_wp2
      go_roundw
      case rel =>
        refine ⟨k + 1, by go_num, by omega, ?_, d0.drew.far (by simp; omega) _, d1.drew.far (by simp; omega) _, d2.drew.far (by simp; omega) _, d3.drew.far (by simp; omega) _, hBr.drew.setCell (by simp; omega) _⟩
        have := hr.drew.set_ k (U (andF a b k))
        rw [← List.map_set, upTo_set, HF.out] at this
        rw [u64_and_nat _ _ HXU.out HYU.out]
        exact this
      case measure => simp [intOf]; omega
    · obtain rfl : k = N := by omega
      go_wp2
      rw [upTo_full] at hr
      have hL : ((List.range k).map (andF a b)).length = k := by simp
      refine post_rel4 rfl rfl rfl ((d2.set_ 0 _).set_ 1 _) ⟨_, rfl, ⟨g, by rw [hL], by omega, (hr.far (by simp; omega) _).far (by simp; omega) _⟩, (hBr.setCell (by simp; omega) _).setCell (by simp; omega) _⟩
set_option maxHeartbeats 1000000 in
theorem and_bad (a b : RA) (w : World) (ha : a.good w) (hb : b.good w) (hal : alikeL [a, b] = false) :
    Calls Tryd.prog 36 #[a.val, b.val] w (Ret w zeroR) := by
  have HA := Lib.hid ha
  have HB := Lib.hid hb
  have HAL := Lib.hid hal
  clear ha hb hal
  unfold RA.val zeroR
  go_enter Tryd.func36, Tryd.ntmps36
  go_wp2_with (go_at_call 50; obtain ⟨r0, r1, r2, hB, ga, gb⟩ := two_boxes4 a b w HA.out HB.out _ rfl; refine (alike_two a b false _ _ HAL.out r2.1 ga gb).mono ?_; rintro e w1 ⟨rfl, hb1⟩; have hb2 := hB.trans (hb1.mono hB.size); have x2 := (r2.2.below hb1 (by simp only [World.size_alloc]; omega)); obtain ⟨p0, p1, _, _⟩ := x2.two)
  exact post_rel4 rfl rfl rfl ((x2.set_ 0 _).set_ 1 _) ⟨rfl, (hb2.setCell (by simp; omega) _).setCell (by simp; omega) _⟩

def lessF (a b : RA) (i : Nat) : Nat := a.rows.getD i 0 &&& (18446744073709551615 - b.rows.getD i 0)
set_option maxHeartbeats 1000000 in
theorem less_ok (a b : RA) (w : World) (ha : a.good w) (hb : b.good w) (hal : alikeL [a, b] = true) :
    Calls Tryd.prog 38 #[a.val, b.val] w (RetQ w fun v w' => NewR w.heap.size ((List.range a.rows.length).map (lessF a b)) v w') := by
  obtain ⟨_, _, hn, _, hbl, h64⟩ := alike_len hal
  obtain ⟨N, hN⟩ : ∃ N, a.rows.length = N := ⟨_, rfl⟩
  have HA := Lib.hid ha
  have HB := Lib.hid hb
  have HAL := Lib.hid hal
  have HBL := Lib.hid hbl
  have HN := Lib.hid hN
  have HI := Lib.hid hn
  clear ha hb hal hbl hn
  rw [hN] at h64 ⊢
  clear hN
  have hNN : ∀ w, Calls Tryd.prog 13 #[.int .i64 a.n] w (RetQ w fun v w' => ∃ g, v = .agg #[.int .i64 N, .slice (some ⟨g, 0, none⟩) N N] ∧ w.heap.size ≤ g ∧ RowT w' g 37 ((List.replicate N 0).map U)) := fun w => by
    rw [← HI.out, HN.out]; exact none_ok N w h64
  have HNN := Lib.hid hNN
  clear hNN
  unfold RA.val
  go_enter Tryd.func38, Tryd.ntmps38
  go_wp2_with (first | (go_at_call 50; obtain ⟨r0, r1, r2, hB, ga, gb⟩ := two_boxes4 a b w HA.out HB.out _ rfl; refine (alike_two a b true _ _ HAL.out r2.1 ga gb).mono ?_; rintro e w1 ⟨rfl, hb1⟩; have hb2 := hB.trans (hb1.mono hB.size); obtain ⟨p0, p1, _, _⟩ := (r0.below hb1 (by simp only [World.size_alloc]; omega)).two; obtain ⟨q0, q1, _, _⟩ := (r1.below hb1 (by simp only [World.size_alloc]; omega)).two; have hz := hb1.size; simp only [World.size_alloc] at hz; have hz0 : w.heap.size < w1.heap.size := (by omega); have hz1 : w.heap.size + 1 < w1.heap.size := (by omega); have hz2 : w.heap.size + 1 + 1 < w1.heap.size := (by omega)) | (go_at_call 13; refine (HNN.out _).mono ?_; rintro e w2 ⟨v, rfl, ⟨g, rfl, hg, hrow⟩, hb3⟩; obtain ⟨hc2, hf2⟩ := bcell hb3; have hy := hb3.size; have hy0 : w.heap.size < w2.heap.size := (by omega); have hy1 : w.heap.size + 1 < w2.heap.size := (by omega); have hy2 : w.heap.size + 1 + 1 < w2.heap.size := (by omega)))
  obtain ⟨_, z0⟩ := r2
  have x0 := (r0.below hb1 (by simp only [World.size_alloc]; omega)).below hb3 hz0
  have x1 := (r1.below hb1 (by simp only [World.size_alloc]; omega)).below hb3 hz1
  have x2 := (z0.below hb1 (by simp only [World.size_alloc]; omega)).below hb3 hz2
  have hB2 : Below w.heap.size w w2 := hb2.trans (hb3.mono hb2.size)
  have hgl := hrow.lt
  clear r0 r1 z0 p0 p1 q0 q1 hc2 hf2 ga gb hb1 hb3 hb2 hB
  go_loopw [19] (fun i wr => ∃ k : Nat, i = .int .i64 k ∧ k ≤ N ∧ RowT wr g 37 ((upTo N k (lessF a b)).map U) ∧ RowT wr w.heap.size 26 [.int .i64 a.n, .slice a.A a.rows.length a.cap] ∧ RowT wr (w.heap.size + 1) 26 [.int .i64 b.n, .slice b.A b.rows.length b.cap] ∧
      RowT wr (w.heap.size + 1 + 1) 26 [.int .i64 0, .slice none 0 0] ∧ RowT wr w2.heap.size 26 [.int .i64 N, .slice (some ⟨g, 0, none⟩) N N] ∧ Below w.heap.size w wr) (fun i _ => N - (intOf i).toNat)
  case atStart => exact ⟨0, rfl, by omega, by rw [upTo_zero]; exact hrow.alloc _, x0.alloc _, x1.alloc _, x2.alloc _, RowT.new w2 26 [.int .i64 N, .slice (some ⟨g, 0, none⟩) N N], hB2.alloc hB2.size _⟩
  case round =>
    obtain ⟨k, rfl, hk, hr, d0, d1, d2, d3, hBr⟩ := hrel
    clear hrow x0 x1 x2 hB2
    obtain ⟨a0, a1, _, _⟩ := d0.two
    obtain ⟨b0, b1, _, _⟩ := d1.two
    obtain ⟨c0, c1, c2, c3⟩ := d2.two
    obtain ⟨e0, e1, _, _⟩ := d3.two
    by_cases hlt : k < N
    · have hka : k < a.rows.length := by have := HN.out; omega
      have hkb : k < b.rows.length := by have := HN.out; have := HBL.out; omega
      obtain ⟨ad, x, hA, hbk, hx, hcx⟩ := (HA.out.2.below hBr).u hka
      obtain ⟨ae, y, hE, hbl, hy, hcy⟩ := (HB.out.2.below hBr).u hkb
      have hxu := HA.out.1 x (List.mem_of_getElem? hx)
      have hyu := HB.out.1 y (List.mem_of_getElem? hy)
      have hF : lessF a b k = x &&& (18446744073709551615 - y) := by simp [lessF, List.getD_eq_getElem?_getD, hx, hy]
      have HF := Lib.hid hF
      have HXU := Lib.hid hxu
      have HYU := Lib.hid hyu
      have hck : wr.cell? ⟨g, k, none⟩ = some (.int .u64 ((0 : Nat) : Int)) := by
        rw [hr.cell k, List.getElem?_map, upTo_get _ hlt, if_neg (by omega)]; rfl
      have hfk := hr.frozen k
      rw [hA] at a1
      rw [hE] at b1
      clear hx hy hF hxu hyu hA hE
      go_wp2
      go_region
      go_wp2
      go_roundw
      case rel =>
        refine ⟨k + 1, by go_num, by omega, ?_, d0.drew.far (by simp; omega) _, d1.drew.far (by simp; omega) _, d2.drew.far (by simp; omega) _, d3.drew.far (by simp; omega) _, hBr.drew.setCell (by simp; omega) _⟩
        have := hr.drew.set_ k (U (lessF a b k))
        rw [← List.map_set, upTo_set, HF.out] at this
        rw [u64_andNot_nat _ _ HXU.out HYU.out]
        exact this
      case measure => simp [intOf]; omega
    · obtain rfl : k = N := by omega
      go_wp2
      rw [upTo_full] at hr
      have hL : ((List.range k).map (lessF a b)).length = k := by simp
      refine post_rel4 rfl rfl rfl ((d2.set_ 0 _).set_ 1 _) ⟨_, rfl, ⟨g, by rw [hL], by omega, (hr.far (by simp; omega) _).far (by simp; omega) _⟩, (hBr.setCell (by simp; omega) _).setCell (by simp; omega) _⟩
set_option maxHeartbeats 1000000 in
theorem less_bad (a b : RA) (w : World) (ha : a.good w) (hb : b.good w) (hal : alikeL [a, b] = false) :
    Calls Tryd.prog 38 #[a.val, b.val] w (Ret w zeroR) := by
  have HA := Lib.hid ha
  have HB := Lib.hid hb
  have HAL := Lib.hid hal
  clear ha hb hal
  unfold RA.val zeroR
  go_enter Tryd.func38, Tryd.ntmps38
  go_wp2_with (go_at_call 50; obtain ⟨r0, r1, r2, hB, ga, gb⟩ := two_boxes4 a b w HA.out HB.out _ rfl; refine (alike_two a b false _ _ HAL.out r2.1 ga gb).mono ?_; rintro e w1 ⟨rfl, hb1⟩; have hb2 := hB.trans (hb1.mono hB.size); have x2 := (r2.2.below hb1 (by simp only [World.size_alloc]; omega)); obtain ⟨p0, p1, _, _⟩ := x2.two)
  exact post_rel4 rfl rfl rfl ((x2.set_ 0 _).set_ 1 _) ⟨rfl, (hb2.setCell (by simp; omega) _).setCell (by simp; omega) _⟩
end Go.Proofs.YtigdecmfieaacaaDoor
