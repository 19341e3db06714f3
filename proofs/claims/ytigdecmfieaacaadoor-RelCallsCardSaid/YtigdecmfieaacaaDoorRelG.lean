/-
  Package rel: Or.
-/
import Derived.Test.YtigdecmfieaacaaDoorRelF
namespace Go.Proofs.YtigdecmfieaacaaDoor
open Go Go.RowKit

def orF (L : List RA) (m i : Nat) : Nat := (L.take m).foldl (fun acc a => acc ||| a.rows.getD i 0) 0
theorem orF_succ {L : List RA} {m : Nat} {a : RA} (h : L[m]? = some a) (i : Nat) : orF L (m + 1) i = orF L m i ||| a.rows.getD i 0 := by
  unfold orF
  rw [List.take_add_one, h, List.foldl_append]
  rfl
def orMid (L : List RA) (m k i : Nat) : Nat := if i < k then orF L (m + 1) i else orF L m i
theorem orMid_zero (L : List RA) (m : Nat) : orMid L m 0 = orF L m := by funext i; simp [orMid]
theorem orMid_full (L : List RA) (m N : Nat) : (List.range N).map (orMid L m N) = (List.range N).map (orF L (m + 1)) := by
  apply List.map_congr_left
  intro i hi
  rw [orMid, if_pos (by simpa using hi)]
theorem orMid_set (L : List RA) (m k N : Nat) : ((List.range N).map (orMid L m k)).set k (orF L (m + 1) k) = (List.range N).map (orMid L m (k + 1)) := by
  apply List.ext_getElem
  · simp
  · intro i h1 h2
    simp only [List.getElem_set, List.getElem_map, List.getElem_range, orMid]
    by_cases h : k = i
    · subst h; simp
    · rw [if_neg h]
      by_cases hk : i < k
      · rw [if_pos hk, if_pos (by omega)]
      · rw [if_neg hk, if_neg (by omega)]
theorem foldl_or_lt (l : List Nat) : ∀ a, a < 2 ^ 64 → (∀ x ∈ l, x < 2 ^ 64) → l.foldl (fun acc x => acc ||| x) a < 2 ^ 64 := by
  induction l with
  | nil => intro a h _; exact h
  | cons x l ih => intro a h hl; exact ih _ (Nat.or_lt_two_pow h (hl x (by simp))) (fun y hy => hl y (by simp [hy]))
theorem orF_lt (L : List RA) (m i : Nat) (h : ∀ a ∈ L, ∀ x ∈ a.rows, x < 18446744073709551616) : orF L m i < 18446744073709551616 := by
  have e : orF L m i = ((L.take m).map fun a => a.rows.getD i 0).foldl (fun acc x => acc ||| x) 0 := by rw [List.foldl_map]; rfl
  rw [e]
  refine foldl_or_lt _ 0 (by decide) ?_
  intro x hx
  obtain ⟨a, ha, rfl⟩ := List.mem_map.1 hx
  rw [List.getD_eq_getElem?_getD]
  cases hg : a.rows[i]? with
  | none => simp
  | some y => exact h a (List.mem_of_mem_take ha) y (List.mem_of_getElem? hg)
theorem alikeL_each {L : List RA} {a0 : RA} (hal : alikeL L = true) (h0 : L[0]? = some a0) {m : Nat} {a : RA} (h : L[m]? = some a) : a.ok = true ∧ a.n = a0.n ∧ (a.rows.length : Int) = a0.n ∧ a.rows.length = a0.rows.length ∧ a0.rows.length ≤ 64 := by
  cases L with
  | nil => simp at h
  | cons b L =>
    obtain rfl : b = a0 := by simpa using h0
    unfold alikeL at hal
    rw [List.all_eq_true] at hal
    have h1 := hal a (List.mem_of_getElem? h)
    have h2 := hal b (by simp)
    simp only [Bool.and_eq_true, decide_eq_true_eq] at h1 h2
    have h3 := h1.1
    have h4 := h2.1
    simp only [RA.ok, okR, Bool.and_eq_true, decide_eq_true_eq] at h3 h4
    exact ⟨h1.1, h1.2, by omega, by omega, by omega⟩

set_option maxHeartbeats 2000000 in
theorem or_ok (L : List RA) (a0 : RA) (gl : Nat) (w : World) (hlen : L.length < 1000) (hL : RowT w gl 26 (L.flatMap RA.cells)) (hg : ∀ a ∈ L, a.good w) (hal : alikeL L = true) (h0 : L[0]? = some a0) :
    Calls Tryd.prog 34 #[.slice (some ⟨gl, 0, none⟩) L.length L.length] w (RetQ w fun v w' => NewR w.heap.size ((List.range a0.rows.length).map (orF L L.length)) v w') := by
  have hlpos : 0 < L.length := by cases L with
    | nil => simp at h0
    | cons _ _ => simp
  have hgl := hL.lt
  obtain ⟨_, _, hn0, _, h64⟩ := alikeL_each hal h0 h0
  obtain ⟨N, hN⟩ : ∃ N, a0.rows.length = N := ⟨_, rfl⟩
  have HL := Lib.hid hL
  have HG := Lib.hid hg
  have HAL := Lib.hid hal
  have H0 := Lib.hid h0
  have HN := Lib.hid hN
  have HUB : Hid (∀ a ∈ L, ∀ x ∈ a.rows, x < 18446744073709551616) := Lib.hid (fun a ha => (hg a ha).1)
  have hc0 := hL.cell 0
  have e0 := (cells_get L 0 a0 h0).1
  rw [Nat.zero_mul] at e0
  rw [e0] at hc0
  rw [hN] at h64 ⊢
  have hNN : ∀ w, Calls Tryd.prog 13 #[.int .i64 a0.n] w (RetQ w fun v w' => ∃ g, v = .agg #[.int .i64 N, .slice (some ⟨g, 0, none⟩) N N] ∧ w.heap.size ≤ g ∧ RowT w' g 37 ((List.replicate N 0).map U)) := fun w => by
    rw [← hn0, hN]; exact none_ok N w h64
  have HNN := Lib.hid hNN
  clear hL hg hal h0 hN hNN e0 hn0
  have hcw := fun (W : World) (hb : Below w.heap.size w W) => (hb.cell (p := ⟨gl, 0, none⟩) hgl).trans hc0
  have HCW := Lib.hid hcw
  clear hcw
  go_enter Tryd.func34, Tryd.ntmps34
  go_wp2_with (first | (go_at_call 50; refine (alike_any L gl _ hlen (HL.out.alloc _) (fun a ha => (HG.out a ha).on (below_alloc _ _))).mono ?_; rw [HAL.out]; rintro e w1 ⟨rfl, hb1⟩; have hz := size_one hb1; have hb2 := (below_alloc w _).trans (hb1.mono (by simp)); have hc1 := HCW.out _ hb2; have hz1 : gl < w1.heap.size := (by omega)) | (go_at_call 13; refine (HNN.out _).mono ?_; rintro e w2 ⟨v, rfl, ⟨g, rfl, hg, hrow⟩, hb3⟩; obtain ⟨hc2, hf2⟩ := bcell hb3; have hy := hb3.size; have hy0 : w.heap.size < w2.heap.size := (by omega); have hy1 : gl < w2.heap.size := (by omega)))
  have x2 := ((RowT.new w 26 [.int .i64 0, .slice none 0 0]).below hb1 (by simp)).below hb3 hz
  have hB2 : Below w.heap.size w w2 := hb2.trans (hb3.mono hb2.size)
  have hgw : w.heap.size < g := by omega
  have hgl2 := hrow.lt
  clear hb1 hb2 hb3 hc2 hf2 hc0 hc1
  go_loopw [19] (fun i wr => ∃ m : Nat, i = .int .i64 m ∧ m ≤ L.length ∧ RowT wr g 37 (((List.range N).map (orF L m)).map U) ∧
      RowT wr w.heap.size 26 [.int .i64 0, .slice none 0 0] ∧ RowT wr w2.heap.size 26 [.int .i64 N, .slice (some ⟨g, 0, none⟩) N N] ∧ Below w.heap.size w wr) (fun i _ => L.length - (intOf i).toNat)
  case atStart =>
    refine ⟨0, rfl, by omega, ?_, x2.alloc _, RowT.new w2 26 [.int .i64 N, .slice (some ⟨g, 0, none⟩) N N], hB2.alloc hB2.size _⟩
    have e : (List.range N).map (orF L 0) = List.replicate N 0 := by apply List.ext_getElem <;> simp [orF]
    rw [e]; exact hrow.alloc _
  case round =>
    obtain ⟨m, rfl, hm, hr, d2, d3, hBr⟩ := hrel
    clear hrow x2 hB2
    obtain ⟨c0, c1, c2, c3⟩ := d2.two
    obtain ⟨e0, e1, _, _⟩ := d3.two
    have hd3 := d3.lt
    have hd2 := d2.lt
    have hgr := hr.lt
    by_cases hlt : m < L.length
    · obtain ⟨a, ha⟩ : ∃ a, L[m]? = some a := ⟨_, List.getElem?_eq_getElem hlt⟩
      obtain ⟨_, _, _, hal, _⟩ := alikeL_each HAL.out H0.out ha
      rw [HN.out] at hal
      have hLr := HL.out.below hBr hgl
      have hm0 := (hLr.cell (m * 2)).trans (cells_get L m a ha).1
      have hm1 := (hLr.cell (m * 2 + 1)).trans (cells_get L m a ha).2
      have GD := Lib.hid ((HG.out a (List.mem_of_getElem? ha)).on hBr)
      have HM := Lib.hid ha
      have HAN := Lib.hid hal
      have hgr2 : gl < wr.heap.size := by omega
      rw [hal] at hm1
      clear ha hal hLr
      obtain ⟨wo, rfl⟩ : ∃ wo : World, wo = wr := ⟨_, rfl⟩
      go_wp2
      go_loopw [26] (fun i wr => ∃ k : Nat, i = .int .i64 k ∧ k ≤ N ∧ RowT wr g 37 (((List.range N).map (orMid L m k)).map U) ∧
        RowT wr w.heap.size 26 [.int .i64 0, .slice none 0 0] ∧ RowT wr w2.heap.size 26 [.int .i64 N, .slice (some ⟨g, 0, none⟩) N N] ∧ Below w.heap.size w wr) (fun i _ => N - (intOf i).toNat)
      case atStart => exact ⟨0, rfl, by omega, by rw [orMid_zero]; exact hr.alloc _, d2.alloc _, d3.alloc _, hBr.alloc hBr.size _⟩
      case round =>
        obtain ⟨k, rfl, hk, hri, i2, i3, hBi⟩ := hrel
        clear hr d2 d3 c0 c1 c2 c3 e0 e1 hm0 hm1
        obtain ⟨e0, e1, _, _⟩ := i3.two
        by_cases hkt : k < N
        · have hka : k < a.rows.length := by have := HAN.out; omega
          obtain ⟨ad, x, hA, hbk, hx, hcx⟩ := ((HG.out a (List.mem_of_getElem? HM.out)).2.below hBi).u hka
          have hxu := HUB.out a (List.mem_of_getElem? HM.out) x (List.mem_of_getElem? hx)
          have HXU := Lib.hid hxu
          have hF : orF L (m + 1) k = orF L m k ||| x := by rw [orF_succ HM.out, List.getD_eq_getElem?_getD, hx]; rfl
          have HF := Lib.hid hF
          obtain ⟨v, hv⟩ : ∃ v, orF L m k = v := ⟨_, rfl⟩
          have HVU : Hid (v < 18446744073709551616) := by rw [← hv]; exact Lib.hid (orF_lt L m k HUB.out)
          have hck : wr.cell? ⟨g, k, none⟩ = some (.int .u64 (v : Int)) := by
            rw [hri.cell k, ← hv]; simp [hkt, orMid]
          have hfk := hri.frozen k
          have HV := Lib.hid hv
          clear hx hF hxu hv
          rw [hA]
          go_wp2
          go_roundw
          case rel =>
            refine ⟨k + 1, by go_num, by omega, ?_, i2.far (by simp; omega) _, i3.far (by simp; omega) _, hBi.setCell (by simp; omega) _⟩
            have := hri.set_ k (U (orF L (m + 1) k))
            rw [← List.map_set, orMid_set, HF.out, HV.out] at this
            rw [u64_or_nat _ _ HVU.out HXU.out]
            exact this
          case measure => simp [intOf]; omega
        · obtain rfl : k = N := by omega
          go_wp2
          go_roundw
          case rel => exact ⟨m + 1, by go_num, by omega, by rw [← orMid_full]; exact hri, i2, i3, hBi⟩
          case measure => simp [intOf]; omega
    · obtain rfl : m = L.length := by omega
      go_wp2
      have hLn : ((List.range N).map (orF L L.length)).length = N := by simp
      exact post_rel rfl rfl rfl ((d2.set_ 0 _).set_ 1 _) ⟨_, rfl, ⟨g, by rw [hLn], by omega, (hr.far (by simp; omega) _).far (by simp; omega) _⟩, (hBr.setCell (by simp) _).setCell (by simp) _⟩
set_option maxHeartbeats 1000000 in
theorem or_bad (L : List RA) (gl : Nat) (w : World) (hlen : L.length < 1000) (hL : RowT w gl 26 (L.flatMap RA.cells)) (hg : ∀ a ∈ L, a.good w) (hal : alikeL L = false) :
    Calls Tryd.prog 34 #[.slice (some ⟨gl, 0, none⟩) L.length L.length] w (Ret w zeroR) := by
  have HL := Lib.hid hL
  have HG := Lib.hid hg
  have HAL := Lib.hid hal
  clear hL hg hal
  unfold zeroR
  go_enter Tryd.func34, Tryd.ntmps34
  go_wp2_with (go_at_call 50; refine (alike_any L gl _ hlen (HL.out.alloc _) (fun a ha => (HG.out a ha).on (below_alloc _ _))).mono ?_; rw [HAL.out]; rintro e w1 ⟨rfl, hb1⟩; have hz := size_one hb1; have hb2 := (below_alloc w _).trans (hb1.mono (by simp)); have x2 := ((RowT.new w 26 [.int .i64 0, .slice none 0 0]).below hb1 (by simp)); obtain ⟨c0, c1, c2, c3⟩ := x2.two)
  exact post_rel rfl rfl rfl ((x2.set_ 0 _).set_ 1 _) ⟨rfl, (hb2.setCell (by simp) _).setCell (by simp) _⟩
/-- alike of none. -/
theorem alike_none (w : World) : Calls Tryd.prog 50 #[.slice none 0 0] w (Ret w (.bool false)) := by
  go_enter Tryd.func50, Tryd.ntmps50
  go_wp2
  refine wp_loop_rounds 1 ?_
  rw [rounds_succ]
  go_wp2
  go_ret
  exact Ret.b rfl (Below.refl _ _)
theorem or_none (w : World) : Calls Tryd.prog 34 #[.slice none 0 0] w (Ret w zeroR) := by
  unfold zeroR
  go_enter Tryd.func34, Tryd.ntmps34
  go_wp2_with (go_at_call 50; refine (alike_none _).mono ?_; rintro e w1 ⟨rfl, hb1⟩; have hz := size_one hb1; have hb2 := (below_alloc w _).trans (hb1.mono (by simp)); have x2 := ((RowT.new w 26 [.int .i64 0, .slice none 0 0]).below hb1 (by simp)); obtain ⟨c0, c1, c2, c3⟩ := x2.two)
  exact post_rel rfl rfl rfl ((x2.set_ 0 _).set_ 1 _) ⟨rfl, (hb2.setCell (by simp) _).setCell (by simp) _⟩
end Go.Proofs.YtigdecmfieaacaaDoor
