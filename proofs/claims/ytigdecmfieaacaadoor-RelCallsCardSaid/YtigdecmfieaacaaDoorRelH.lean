/-
  Package rel: Then.
-/
import Derived.Test.YtigdecmfieaacaaDoorRelG
import Derived.Test.YtigdecmfieaacaaDoorImage
namespace Go.Proofs.YtigdecmfieaacaaDoor
open Go Go.RowKit

def midl (f : Nat → Nat) (ws : List Nat) (k : Nat) : List Nat := (ws.take k).map f ++ ws.drop k
theorem midl_zero (f : Nat → Nat) (ws : List Nat) : midl f ws 0 = ws := by simp [midl]
theorem midl_full (f : Nat → Nat) (ws : List Nat) : midl f ws ws.length = ws.map f := by simp [midl]
theorem midl_get {f : Nat → Nat} {ws : List Nat} {k x : Nat} (h : ws[k]? = some x) : (midl f ws k)[k]? = some x := by
  have hk := (List.getElem?_eq_some_iff.1 h).1
  rw [midl, List.getElem?_append_right (by simp; omega)]
  simp only [List.length_map, List.length_take, List.getElem?_drop]
  rw [show k + (k - min k ws.length) = k from by omega]
  exact h
theorem midl_set {f : Nat → Nat} {ws : List Nat} {k x : Nat} (h : ws[k]? = some x) : (midl f ws k).set k (f x) = midl f ws (k + 1) := by
  have hk := (List.getElem?_eq_some_iff.1 h).1
  rw [midl, midl, List.take_add_one, h, List.set_append_right _ _ (by simp; omega)]
  simp only [List.length_map, List.length_take, Nat.min_eq_left (Nat.le_of_lt hk), Nat.sub_self]
  rw [List.drop_eq_getElem_cons hk]
  simp only [List.set_cons_zero, Option.toList_some, List.map_append, List.map_cons, List.map_nil, List.append_assoc, List.cons_append, List.nil_append]
theorem midl_length (f : Nat → Nat) (ws : List Nat) (k : Nat) : (midl f ws k).length = ws.length := by simp [midl]; omega
theorem img_lt {rows : List Nat} {N : Nat} (h : ∀ x ∈ rows, x < 2 ^ N) (m : Nat) : img rows m < 2 ^ N := by
  unfold img
  suffices hh : ∀ (l : List (BitOf m)) (a : Nat), a < 2 ^ N → l.foldl (fun acc j => acc ||| rows.getD j.1 0) a < 2 ^ N from hh _ 0 (Nat.two_pow_pos N)
  intro l
  induction l with
  | nil => intro a h; exact h
  | cons x l ih =>
    intro a ha
    refine ih _ (Nat.or_lt_two_pow ha ?_)
    rw [List.getD_eq_getElem?_getD]
    cases hx : rows[x.1]? with
    | none => simpa using Nat.two_pow_pos N
    | some y => exact h y (List.mem_of_getElem? hx)
/-- The rows behind the first m relations, from 'each to itself' on. -/
def thenL (N : Nat) (L : List RA) (m : Nat) : List Nat := (L.take m).foldl (fun ws a => ws.map (img a.rows)) ((List.range N).map (2 ^ ·))
theorem thenL_succ {N : Nat} {L : List RA} {m : Nat} {a : RA} (h : L[m]? = some a) : thenL N L (m + 1) = (thenL N L m).map (img a.rows) := by
  unfold thenL
  rw [List.take_add_one, h, List.foldl_append]
  rfl
theorem thenL_length (N : Nat) (L : List RA) (m : Nat) : (thenL N L m).length = N := by
  unfold thenL
  generalize L.take m = l
  suffices hh : ∀ ws : List Nat, (l.foldl (fun ws a => ws.map (img a.rows)) ws).length = ws.length by rw [hh]; simp
  induction l with
  | nil => intro ws; rfl
  | cons a l ih => intro ws; rw [List.foldl_cons, ih]; simp
theorem thenL_lt {N : Nat} {L : List RA} (h : ∀ a ∈ L, ∀ x ∈ a.rows, x < 2 ^ N) (m : Nat) : ∀ x ∈ thenL N L m, x < 2 ^ N := by
  unfold thenL
  have h' : ∀ a ∈ L.take m, ∀ x ∈ a.rows, x < 2 ^ N := fun a ha => h a (List.mem_of_mem_take ha)
  generalize L.take m = l at h'
  suffices hh : ∀ ws : List Nat, (∀ x ∈ ws, x < 2 ^ N) → ∀ x ∈ l.foldl (fun ws a => ws.map (img a.rows)) ws, x < 2 ^ N by
    refine hh _ ?_
    intro x hx
    obtain ⟨i, hi, rfl⟩ := List.mem_map.1 hx
    exact Nat.pow_lt_pow_right (by decide) (by simpa using hi)
  induction l with
  | nil => intro ws hw; exact hw
  | cons a l ih =>
    intro ws _
    rw [List.foldl_cons]
    refine ih (fun b hb => h' b (by simp [hb])) _ ?_
    intro x hx
    obtain ⟨y, _, rfl⟩ := List.mem_map.1 hx
    exact img_lt (h' a (by simp)) y
theorem ok_lt {a : RA} {N : Nat} (h : a.ok = true) (hn : a.rows.length = N) : ∀ x ∈ a.rows, x < 2 ^ N := by
  simp only [RA.ok, okR, Bool.and_eq_true, decide_eq_true_eq, List.all_eq_true] at h
  intro x hx
  have := h.2 x hx
  rwa [show a.n.toNat = N from by omega] at this

set_option maxHeartbeats 2000000 in
theorem then_ok (L : List RA) (a0 : RA) (gl : Nat) (w : World) (hT : Tab w) (hlen : L.length < 1000) (hL : RowT w gl 26 (L.flatMap RA.cells)) (hg : ∀ a ∈ L, a.good w) (hal : alikeL L = true) (h0 : L[0]? = some a0) :
    Calls Tryd.prog 15 #[.slice (some ⟨gl, 0, none⟩) L.length L.length] w (RetQ w fun v w' => NewR w.heap.size (thenL a0.rows.length L L.length) v w') := by
  have hlpos : 0 < L.length := by cases L with
    | nil => simp at h0
    | cons _ _ => simp
  have hgl := hL.lt
  obtain ⟨-, -, hn0, -, h64⟩ := alikeL_each hal h0 h0
  obtain ⟨N, hN⟩ : ∃ N, a0.rows.length = N := ⟨_, rfl⟩
  have HL := Lib.hid hL
  have HT := Lib.hid hT
  have HG := Lib.hid hg
  have HAL := Lib.hid hal
  have H0 := Lib.hid h0
  have HN := Lib.hid hN
  have HUB : Hid (∀ a ∈ L, ∀ x ∈ a.rows, x < 18446744073709551616) := Lib.hid (fun a ha => (hg a ha).1)
  have HUN : Hid (∀ a ∈ L, ∀ x ∈ a.rows, x < 2 ^ N) := Lib.hid (fun a ha => by
    obtain ⟨m, hm⟩ := List.getElem?_of_mem ha
    obtain ⟨h1, _, _, h4, _⟩ := alikeL_each hal h0 hm
    exact ok_lt h1 (h4.trans hN))
  have hc0 := hL.cell 0
  have e0 := (cells_get L 0 a0 h0).1
  rw [Nat.zero_mul] at e0
  rw [e0] at hc0
  rw [hN] at h64 ⊢
  have hNN : ∀ w, Calls Tryd.prog 12 #[.int .i64 a0.n] w (RetQ w fun v w' => ∃ g, v = .agg #[.int .i64 N, .slice (some ⟨g, 0, none⟩) N N] ∧ w.heap.size ≤ g ∧ RowT w' g 37 (((List.range N).map (2 ^ ·)).map U)) := fun w => by
    rw [← hn0, hN]; exact self_ok N w h64
  have HNN := Lib.hid hNN
  clear hL hg hal h0 hN hNN e0 hn0 hT
  have hcw := fun (W : World) (hb : Below w.heap.size w W) => (hb.cell (p := ⟨gl, 0, none⟩) hgl).trans hc0
  have HCW := Lib.hid hcw
  clear hcw
  go_enter Tryd.func15, Tryd.ntmps15
  go_wp2_with (first | (go_at_call 50; refine (alike_any L gl _ hlen (HL.out.alloc _) (fun a ha => (HG.out a ha).on (below_alloc _ _))).mono ?_; rw [HAL.out]; rintro e w1 ⟨rfl, hb1⟩; have hz := size_one hb1; have hb2 := (below_alloc w _).trans (hb1.mono (by simp)); have hc1 := HCW.out _ hb2; have hz1 : gl < w1.heap.size := (by omega)) | (go_at_call 12; refine (HNN.out _).mono ?_; rintro e w2 ⟨v, rfl, ⟨g, rfl, hg, hrow⟩, hb3⟩; obtain ⟨hc2, hf2⟩ := bcell hb3; have hy := hb3.size; have hy0 : w.heap.size < w2.heap.size := (by omega); have hy1 : gl < w2.heap.size := (by omega)))
  have x2 := ((RowT.new w 26 [.int .i64 0, .slice none 0 0]).below hb1 (by simp)).below hb3 hz
  have hB2 : Below w.heap.size w w2 := hb2.trans (hb3.mono hb2.size)
  have hgw : w.heap.size < g := by omega
  have hgl2 := hrow.lt
  clear hb1 hb2 hb3 hc2 hf2 hc0 hc1
  go_loopw [19] (fun i wr => ∃ m : Nat, i = .int .i64 m ∧ m ≤ L.length ∧ RowT wr g 37 ((thenL N L m).map U) ∧
      RowT wr w.heap.size 26 [.int .i64 0, .slice none 0 0] ∧ RowT wr w2.heap.size 26 [.int .i64 N, .slice (some ⟨g, 0, none⟩) N N] ∧ Below w.heap.size w wr) (fun i _ => L.length - (intOf i).toNat)
  case atStart => exact ⟨0, rfl, by omega, hrow.alloc _, x2.alloc _, RowT.new w2 26 [.int .i64 N, .slice (some ⟨g, 0, none⟩) N N], hB2.alloc hB2.size _⟩
  case round =>
    obtain ⟨m, rfl, hm, hr, d2, d3, hBr⟩ := hrel
    clear hrow x2 hB2
    obtain ⟨c0, c1, c2, c3⟩ := d2.two
    obtain ⟨e0, e1, _, _⟩ := d3.two
    have hd3 := d3.lt
    have hd2 := d2.lt
    have hgr := hr.lt
    by_cases hlt : m < L.length
    · obtain ⟨a, ha⟩ : ∃ a, L[m]? = some a := ⟨_, List.getElem?_eq_getElem hlt⟩
      obtain ⟨-, -, -, hal, -⟩ := alikeL_each HAL.out H0.out ha
      rw [HN.out] at hal
      have hLr := HL.out.below hBr hgl
      have hm0 := (hLr.cell (m * 2)).trans (cells_get L m a ha).1
      have hm1 := (hLr.cell (m * 2 + 1)).trans (cells_get L m a ha).2
      have HM := Lib.hid ha
      have HAN := Lib.hid hal
      have hgr2 : gl < wr.heap.size := by omega
      clear ha hal hLr
      have r5 := RowT.new wr 26 [.int .i64 a.n, .slice a.A a.rows.length a.cap]
      obtain ⟨wo, rfl⟩ : ∃ wo : World, wo = wr := ⟨_, rfl⟩
      go_wp2
      go_loopw [26] (fun i wr => ∃ k : Nat, i = .int .i64 k ∧ k ≤ N ∧ RowT wr g 37 ((midl (img a.rows) (thenL N L m) k).map U) ∧ RowT wr wo.heap.size 26 [.int .i64 a.n, .slice a.A a.rows.length a.cap] ∧
        RowT wr w.heap.size 26 [.int .i64 0, .slice none 0 0] ∧ RowT wr w2.heap.size 26 [.int .i64 N, .slice (some ⟨g, 0, none⟩) N N] ∧ Below w.heap.size w wr) (fun i _ => N - (intOf i).toNat)
      case atStart => exact ⟨0, rfl, by omega, by rw [midl_zero]; exact hr.alloc _, r5, d2.alloc _, d3.alloc _, hBr.alloc hBr.size _⟩
      case round =>
        obtain ⟨k, rfl, hk, hri, i5, i2, i3, hBi⟩ := hrel
        clear hr d2 d3 c0 c1 c2 c3 e0 e1 hm0 hm1 r5
        obtain ⟨e0, e1, _, _⟩ := i3.two
        obtain ⟨q0, q1, _, _⟩ := i5.two
        by_cases hkt : k < N
        · obtain ⟨x, hx⟩ : ∃ x, (thenL N L m)[k]? = some x := ⟨_, List.getElem?_eq_getElem (by rw [thenL_length]; exact hkt)⟩
          have hxN := thenL_lt HUN.out m x (List.mem_of_getElem? hx)
          have hN64 := pow_le_64 N h64
          have hxu : x < 18446744073709551616 := Nat.lt_of_lt_of_le hxN hN64
          have hxb : ∀ j, x.testBit j = true → j < a.rows.length := fun j hj => by
            rw [HAN.out]
            rcases Nat.lt_or_ge j N with h' | h'
            · exact h'
            · rw [Nat.testBit_lt_two_pow (Nat.lt_of_lt_of_le hxN (Nat.pow_le_pow_right (by decide) h'))] at hj; cases hj
          have hck : wr.cell? ⟨g, k, none⟩ = some (.int .u64 (x : Int)) := by
            rw [hri.cell k, List.getElem?_map, midl_get hx]; rfl
          have hfk := hri.frozen k
          have hi5 := i5.lt
          have hi3 := i3.lt
          have hgi := hri.lt
          have HX := Lib.hid hx
          have HXU := Lib.hid hxu
          have HXB := Lib.hid hxb
          have HGI := Lib.hid (((HG.out a (List.mem_of_getElem? HM.out)).2.into hBi))
          have HTI := Lib.hid (HT.out.on hBi)
          clear hx hxN hN64 hxu hxb
          go_wp2
          go_region_with (go_at_call 51; refine (image_any a.rows _ _ x _ ?_ HXU.out (HUB.out a (List.mem_of_getElem? HM.out)) HXB.out ?_).mono ?_; exact HTI.out; exact HGI.out; rintro e w3 ⟨rfl, hb⟩; have k0 := (hb.cell (p := ⟨w2.heap.size, 1, none⟩) hi3).trans e1; have k1 := (hb.cell (p := ⟨g, k, none⟩) hgi).trans hck; have k2 := (hb.frozen (p := ⟨g, k, none⟩) hgi).trans hfk)
          all_goals
            go_wp2
            go_roundw
            case rel =>
              have hbb : Below wr.heap.size wr w3 := (Below.refl _ _).drew.trans hb
              refine ⟨k + 1, by go_num, by omega, ?_, (i5.below hbb hi5).far (by simp; omega) _, (i2.below hbb (by omega)).far (by simp; omega) _, (i3.below hbb hi3).far (by simp; omega) _, (hBi.trans (hbb.mono hBi.size)).setCell (by simp; omega) _⟩
              have := (hri.below hbb hgi).set_ k (U (img a.rows x))
              rw [← List.map_set, midl_set HX.out] at this
              exact this
            case measure => simp [intOf]; omega
        · obtain rfl : k = N := by omega
          go_wp2
          go_roundw
          case rel =>
            refine ⟨m + 1, by go_num, by omega, ?_, i2, i3, hBi⟩
            rw [thenL_succ HM.out]
            have e := midl_full (img a.rows) (thenL k L m)
            rw [thenL_length] at e
            rw [e] at hri
            exact hri
          case measure => simp [intOf]; omega
    · obtain rfl : m = L.length := by omega
      go_wp2
      have hLn : (thenL N L L.length).length = N := thenL_length _ _ _
      exact post_rel rfl rfl rfl ((d2.set_ 0 _).set_ 1 _) ⟨_, rfl, ⟨g, by rw [hLn], by omega, (hr.far (by simp; omega) _).far (by simp; omega) _⟩, (hBr.setCell (by simp) _).setCell (by simp) _⟩
set_option maxHeartbeats 1000000 in
theorem then_bad (L : List RA) (gl : Nat) (w : World) (hlen : L.length < 1000) (hL : RowT w gl 26 (L.flatMap RA.cells)) (hg : ∀ a ∈ L, a.good w) (hal : alikeL L = false) :
    Calls Tryd.prog 15 #[.slice (some ⟨gl, 0, none⟩) L.length L.length] w (Ret w zeroR) := by
  have HL := Lib.hid hL
  have HG := Lib.hid hg
  have HAL := Lib.hid hal
  clear hL hg hal
  unfold zeroR
  go_enter Tryd.func15, Tryd.ntmps15
  go_wp2_with (go_at_call 50; refine (alike_any L gl _ hlen (HL.out.alloc _) (fun a ha => (HG.out a ha).on (below_alloc _ _))).mono ?_; rw [HAL.out]; rintro e w1 ⟨rfl, hb1⟩; have hz := size_one hb1; have hb2 := (below_alloc w _).trans (hb1.mono (by simp)); have x2 := ((RowT.new w 26 [.int .i64 0, .slice none 0 0]).below hb1 (by simp)); obtain ⟨c0, c1, c2, c3⟩ := x2.two)
  exact post_rel rfl rfl rfl ((x2.set_ 0 _).set_ 1 _) ⟨rfl, (hb2.setCell (by simp) _).setCell (by simp) _⟩
end Go.Proofs.YtigdecmfieaacaaDoor
