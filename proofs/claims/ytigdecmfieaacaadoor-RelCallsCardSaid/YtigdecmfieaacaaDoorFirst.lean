/-
  Package rel: first.
-/
import Derived.Test.YtigdecmfieaacaaDoorImage
namespace Go.Proofs.YtigdecmfieaacaaDoor
open Go Go.RowKit Go.Shelf
attribute [local go_sem] Oper.semAt_some

/-- Is nothing of rest related to thing i? -/
def freeB (back : List Nat) (rest i : Nat) : Bool := decide (back.getD i 0 &&& rest = 0)
def firstR (back : List Nat) (rest : Nat) : Int := match (bitsOf rest).find? (fun i => freeB back rest i.1) with
  | some i => (i.1 : Int)
  | none => -1
theorem first_none {back : List Nat} {rest : Nat} (h : ∀ y ∈ bitsOf rest, freeB back rest y.1 = false) : firstR back rest = -1 := by
  unfold firstR
  rw [List.find?_eq_none.2 (fun y hy => by simp [h y hy])]
theorem first_some {back : List Nat} {rest : Nat} {p : List (BitOf rest)} {x : BitOf rest} (hp : p ++ [x] <+: bitsOf rest) (h : ∀ y ∈ p, freeB back rest y.1 = false) (hx : freeB back rest x.1 = true) : firstR back rest = (x.1 : Int) := by
  unfold firstR
  obtain ⟨t, ht⟩ := hp
  rw [← ht, List.append_assoc, List.find?_append]
  rw [List.find?_eq_none.2 (fun y hy => by simp [h y hy])]
  simp [hx]

set_option maxRecDepth 100000 in
set_option maxHeartbeats 2000000 in
theorem first_any (back : List Nat) (A : Option Addr) (cap m : Nat) (w : World) (hT : Tab w) (hm : m < 18446744073709551616) (hu : ∀ x ∈ back, x < 18446744073709551616)
    (hj : ∀ j, m.testBit j = true → j < back.length) (hr : Reads w w.heap.size 1 A back.length (back.map U)) :
    Calls Tryd.prog 53 #[.slice A back.length cap, .int .u64 m] w (Ret w (.int .i64 (firstR back m))) := by
  have HT := Lib.hid hT
  have HM := Lib.hid hm
  have HU := Lib.hid hu
  have HJ := Lib.hid hj
  have HR := Lib.hid hr
  clear hT hm hu hj hr
  refine (callsIn_wide (n := 5)).1 ?_
  refine callsIn_of_wp_marks Tryd.func53 rfl trivial ?_ rfl
  simp only [Tryd.ntmps53, List.size_toArray, List.length_cons, List.length_nil, Nat.reduceAdd, Nat.reduceSub, Array.replicate_succ, Array.replicate_zero, List.push_toArray, List.append_toArray, List.nil_append, List.cons_append]
  gi_wp2_with (refine ⟨trivial, ?_⟩; gi_at_call 55; refine (callsIn_wide.2 (things_any m _)).mono ?_; rintro e w' ⟨rfl, rfl⟩)
  have r0 := RowT.new w 24 [.slice A back.length cap]
  have r1 := RowT.new (w.alloc (.cells #[.slice A back.length cap] 24)) 37 [.int .u64 m]
  have r2 := RowT.new ((w.alloc (.cells #[.slice A back.length cap] 24)).alloc (.cells #[.int .u64 m] 37)) 3 [.int .i64 0]
  have r3 := RowT.new (((w.alloc (.cells #[.slice A back.length cap] 24)).alloc (.cells #[.int .u64 m] 37)).alloc (.cells #[.int .i64 0] 3)) 37 [.int .u64 m]
  simp only [World.size_alloc] at r1 r2 r3
  have hB0 : Below w.heap.size w ((((w.alloc (.cells #[.slice A back.length cap] 24)).alloc (.cells #[.int .u64 m] 37)).alloc (.cells #[.int .i64 0] 3)).alloc (.cells #[.int .u64 m] 37)) :=
    (below_three w _ _ _).alloc (by simp only [World.size_alloc]; omega) _
  refine wpIn_rangeFunc_ownF rfl (by omega) (gf := 57) (lb := #[.pointer (some ⟨w.heap.size + 1 + 1 + 1, 0, none⟩)]) rfl trivial (enters_of Tryd.func57 (by kernel_rfl) rfl)
    (things_stops (5 - 1) (w.heap.size + 1 + 1 + 1) w.heap.size m (by omega) HM.out HT.out.1 _ (HT.out.on hB0) (by simp) r3.one.1) belowK_t (belowK_b (by simp only [World.size_alloc]; omega)) (Below.refl _ _) (fun _ => rfl)
    (fun pre W => RowT W w.heap.size 24 [.slice A back.length cap] ∧ RowT W (w.heap.size + 1) 37 [.int .u64 m] ∧ RowT W (w.heap.size + 1 + 1) 3 [.int .i64 0] ∧ Below w.heap.size w W ∧ Hid (∀ y ∈ pre, freeB back m y.1 = false))
    (fun c pre W => Hid (c = .ret) ∧ (∃ p x, Hid (pre = p ++ [x]) ∧ Hid (∀ y ∈ p, freeB back m y.1 = false) ∧ Hid (freeB back m x.1 = true) ∧ RowT W (w.heap.size + 1 + 1) 3 [.int .i64 (x.1 : Nat)] ∧ Below w.heap.size w W))
    (OwnFrom.and (RowT.ownFrom _ _ _ (fun _ => _)) (OwnFrom.and (RowT.ownFrom _ _ _ (fun _ => _)) (OwnFrom.and (RowT.ownFrom _ _ _ (fun _ => _)) (OwnFrom.and (ownFrom_below (Nat.le_refl _) (by simp only [World.size_alloc]; omega)) (fun _ _ _ _ h _ _ => h)))))
    (fun c s W W' row hs hg hr => ⟨hs.1, by
      obtain ⟨p, x, h1, h2, h3, h4, h5⟩ := hs.2
      exact ⟨p, x, h1, h2, h3, RowT.ownFrom _ _ _ (fun (_ : Unit) => _) () W W' row h4 hg hr, ownFrom_below (Nat.le_refl _) (by simp only [World.size_alloc]; omega) () W W' row h5 hg hr⟩⟩)
    ⟨((r0.alloc _).alloc _).alloc _, (r1.alloc _).alloc _, r2.alloc _, hB0, Lib.hid (by simp)⟩
    (fun x => { tmps := #[.slice A back.length cap, .int .u64 m, .pointer (some ⟨w.heap.size, 0, none⟩), .pointer (some ⟨w.heap.size + 1, 0, none⟩), .pointer (some ⟨w.heap.size + 1 + 1, 0, none⟩), .int .i64 (x.1 : Nat), .int .u64 m, .func (.func 57) #[] #[.pointer (some ⟨w.heap.size + 1 + 1 + 1, 0, none⟩)], .int .i64 (x.1 : Nat), undef, undef, undef, undef, undef, undef, undef, undef], defers := [] }) ?assign ?body ?done ?stop
  case assign =>
    intro l x W K hK
    gi_wp2
    exact hK
  case body =>
    rintro l pre x W ⟨h0, h1, h2, hB, hP⟩ _
    obtain ⟨c0, f0⟩ := h0.one
    obtain ⟨c1, f1⟩ := h1.one
    obtain ⟨c2, f2⟩ := h2.one
    have hxl : x.1 < back.length := HJ.out x.1 x.2.1
    obtain ⟨ad, y, hA, hbk, hy, hcy⟩ := (HR.out.below hB).u hxl
    subst hA
    have hyu := HU.out y (List.mem_of_getElem? hy)
    have hbit : bits .and .u64 (y : Int) (m : Int) = ((y &&& m : Nat) : Int) := u64_and_nat y m hyu HM.out
    have hfr : freeB back m x.1 = decide (y &&& m = 0) := by unfold freeB; rw [List.getD_eq_getElem?_getD, hy]; rfl
    have HB := Lib.hid hbit
    have HF := Lib.hid hfr
    have hmix : Tryd.prog.follows .mixedOrders = true := by kernel_rfl
    clear hy r0 r1 r2 r3 hyu hbit hfr
    by_cases hz : y &&& m = 0
    · have ht : (bits .and .u64 (y : Int) (m : Int) == 0) = true := by rw [HB.out]; simp [hz]
      have HZ := Lib.hid hz
      clear hz
      gi_wp2
      gi_region_with_o (fail)
      all_goals gi_wp2
      all_goals exact ⟨(KeepsOthers.setCell _ _ _).trans (KeepsOthers.drew _), Lib.hid rfl, pre, x, Lib.hid rfl, hP, Lib.hid (by rw [HF.out]; simp [HZ.out]), (h2.set_ 0 _).drew, (hB.setCell (p := ⟨w.heap.size + 1 + 1, 0, none⟩) (by simp; omega) _).drew⟩
    · have ht : (bits .and .u64 (y : Int) (m : Int) == 0) = false := by rw [HB.out]; simp; omega
      have HZ := Lib.hid hz
      clear hz
      gi_wp2
      gi_region_with_o (fail)
      all_goals gi_wp2
      all_goals exact ⟨KeepsOthers.drew _, (Below.refl _ _).drew, h0.drew, h1.drew, h2.drew, hB.drew, Lib.hid (by
        intro z hz
        rcases List.mem_append.1 hz with hz | hz
        · exact hP.out z hz
        · obtain rfl : z = x := by simpa using hz
          rw [HF.out]; simp [HZ.out])⟩
  case done =>
    rintro D ys W hD rfl ⟨h0, h1, h2, hB, hP⟩ hK
    obtain ⟨c2, f2⟩ := h2.one
    gi_wp2
    have hK' := (KeepsOthers.setCell W ⟨w.heap.size + 1 + 1, 0, none⟩ (.int .i64 (-1))).same D _ hK rfl
    refine ⟨by simp, .inl ⟨_, _, rfl, run_takeDeferred hK', ?_⟩⟩
    have h3 := RowT.putObj (h2.set_ 0 (.int .i64 (-1))) hK' (.deferred none)
    have hc5 := h3.one.1
    refine ⟨.int .i64 (-1), ?_, Ret.i (by rw [first_none hP.out]) ((hB.setCell (p := ⟨w.heap.size + 1 + 1, 0, none⟩) (by simp; omega) _).trans (belowK_b (w := w) (Nat.le_refl _) _ D _ _ (by simp only [World.size_alloc] at hD; omega) hK' rfl rfl))⟩
    simp [results, Tryd.f53, go_sem, hc5]
  case stop =>
    rintro D c pre W hD hpre ⟨hc, p, x, h1, h2, h3, h4, hB⟩ hK
    obtain rfl := hc.out
    obtain rfl := h1.out
    gi_wp2
    refine ⟨by simp, .inl ⟨_, _, rfl, run_takeDeferred hK, ?_⟩⟩
    have h5 := RowT.putObj h4 hK (.deferred none)
    have hc5 := h5.one.1
    refine ⟨.int .i64 (x.1 : Nat), ?_, Ret.i (by rw [first_some hpre h2.out h3.out]) (hB.trans (belowK_b (w := w) (Nat.le_refl _) W D _ _ (by simp only [World.size_alloc] at hD; omega) hK rfl rfl))⟩
    simp [results, Tryd.f53, go_sem, hc5]
end Go.Proofs.YtigdecmfieaacaaDoor
