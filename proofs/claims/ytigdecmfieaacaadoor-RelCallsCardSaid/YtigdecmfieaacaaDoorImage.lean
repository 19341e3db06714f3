/-
  Package rel: image and first, loops over things.
-/
import Derived.Test.YtigdecmfieaacaaDoorThings
namespace Go.Proofs.YtigdecmfieaacaaDoor
open Go Go.RowKit Go.Shelf
attribute [local go_sem] Oper.semAt_some

/-- The bits of all rows that a mask names. -/
def img (rows : List Nat) (m : Nat) : Nat := (bitsOf m).foldl (fun acc j => acc ||| rows.getD j.1 0) 0
def imgPre (rows : List Nat) {m : Nat} (pre : List (BitOf m)) : Nat := pre.foldl (fun acc j => acc ||| rows.getD j.1 0) 0
theorem imgPre_snoc (rows : List Nat) {m : Nat} (pre : List (BitOf m)) (x : BitOf m) : imgPre rows (pre ++ [x]) = imgPre rows pre ||| rows.getD x.1 0 := by simp [imgPre]
theorem imgPre_lt (rows : List Nat) {m : Nat} (hu : ∀ x ∈ rows, x < 18446744073709551616) (pre : List (BitOf m)) : imgPre rows pre < 18446744073709551616 := by
  unfold imgPre
  suffices h : ∀ (l : List (BitOf m)) (a : Nat), a < 2 ^ 64 → l.foldl (fun acc j => acc ||| rows.getD j.1 0) a < 2 ^ 64 from h pre 0 (by decide)
  intro l
  induction l with
  | nil => intro a h; exact h
  | cons x l ih =>
    intro a h
    refine ih _ (Nat.or_lt_two_pow h ?_)
    rw [List.getD_eq_getElem?_getD]
    cases hx : rows[x.1]? with
    | none => simp
    | some y => exact hu y (List.mem_of_getElem? hx)

theorem step_image {rows : List Nat} {A : Option Addr} {cap m : Nat} {w W : World} {pre : List (BitOf m)} {x : BitOf m} {P y : Nat} (hp : P < 18446744073709551616) (hP : imgPre rows pre = P) (hy : rows[x.1]? = some y) (hyu : y < 18446744073709551616)
    (h0 : RowT W w.heap.size 24 [.slice A rows.length cap]) (h1 : RowT W (w.heap.size + 1) 37 [.int .u64 (P : Int)]) (hB : Below w.heap.size w W) :
    KeepsOthers W (W.setCell ⟨w.heap.size + 1, 0, none⟩ (.int .u64 (bits .or .u64 (P : Int) (y : Int)))).drew ∧ Below w.heap.size W (W.setCell ⟨w.heap.size + 1, 0, none⟩ (.int .u64 (bits .or .u64 (P : Int) (y : Int)))).drew ∧
    RowT (W.setCell ⟨w.heap.size + 1, 0, none⟩ (.int .u64 (bits .or .u64 (P : Int) (y : Int)))).drew w.heap.size 24 [.slice A rows.length cap] ∧
    RowT (W.setCell ⟨w.heap.size + 1, 0, none⟩ (.int .u64 (bits .or .u64 (P : Int) (y : Int)))).drew (w.heap.size + 1) 37 [.int .u64 (imgPre rows (pre ++ [x]))] ∧
    Below w.heap.size w (W.setCell ⟨w.heap.size + 1, 0, none⟩ (.int .u64 (bits .or .u64 (P : Int) (y : Int)))).drew := by
  refine ⟨(KeepsOthers.setCell _ _ _).trans (KeepsOthers.drew _), ((Below.refl _ _).setCell (p := ⟨w.heap.size + 1, 0, none⟩) (by simp) _).drew, (h0.far (by simp) _).drew, ?_, (hB.setCell (p := ⟨w.heap.size + 1, 0, none⟩) (by simp) _).drew⟩
  have e : imgPre rows (pre ++ [x]) = P ||| y := by rw [imgPre_snoc, hP, List.getD_eq_getElem?_getD, hy]; rfl
  rw [e, ← u64_or_nat P y hp hyu]
  exact (h1.set_ 0 _).drew
set_option maxRecDepth 100000 in
set_option maxHeartbeats 1000000 in
theorem image_any (rows : List Nat) (A : Option Addr) (cap m : Nat) (w : World) (hT : Tab w) (hm : m < 18446744073709551616) (hu : ∀ x ∈ rows, x < 18446744073709551616)
    (hj : ∀ j, m.testBit j = true → j < rows.length) (hr : Reads w w.heap.size 1 A rows.length (rows.map U)) :
    Calls Tryd.prog 51 #[.slice A rows.length cap, .int .u64 m] w (Ret w (.int .u64 (img rows m))) := by
  have HT := Lib.hid hT
  have HM := Lib.hid hm
  have HU := Lib.hid hu
  have HJ := Lib.hid hj
  have HR := Lib.hid hr
  clear hT hm hu hj hr
  refine (callsIn_wide (n := 5)).1 ?_
  refine callsIn_of_wp_marks Tryd.func51 rfl trivial ?_ rfl
  simp only [Tryd.ntmps51, List.size_toArray, List.length_cons, List.length_nil, Nat.reduceAdd, Nat.reduceSub, Array.replicate_succ, Array.replicate_zero, List.push_toArray, List.append_toArray, List.nil_append, List.cons_append]
  gi_wp2_with (refine ⟨trivial, ?_⟩; gi_at_call 55; refine (callsIn_wide.2 (things_any m _)).mono ?_; rintro e w' ⟨rfl, rfl⟩)
  have r0 := RowT.new w 24 [.slice A rows.length cap]
  have r1 := RowT.new (w.alloc (.cells #[.slice A rows.length cap] 24)) 37 [.int .u64 0]
  have r2 := RowT.new ((w.alloc (.cells #[.slice A rows.length cap] 24)).alloc (.cells #[.int .u64 0] 37)) 37 [.int .u64 m]
  simp only [World.size_alloc] at r1 r2
  have hB0 : Below w.heap.size w (((w.alloc (.cells #[.slice A rows.length cap] 24)).alloc (.cells #[.int .u64 0] 37)).alloc (.cells #[.int .u64 m] 37)) :=
    (((Below.refl _ w).alloc (Nat.le_refl _) _).alloc (by simp) _).alloc (by simp; omega) _
  refine wpIn_rangeFunc_ownF rfl (by omega) (gf := 57) (lb := #[.pointer (some ⟨w.heap.size + 1 + 1, 0, none⟩)]) rfl trivial (enters_of Tryd.func57 (by kernel_rfl) rfl)
    (things_stops (5 - 1) (w.heap.size + 1 + 1) w.heap.size m (by omega) HM.out HT.out.1 _ (HT.out.on hB0) (by simp) r2.one.1) belowK_t (belowK_b (by simp; omega)) (Below.refl _ _) (fun _ => rfl)
    (fun pre W => RowT W w.heap.size 24 [.slice A rows.length cap] ∧ RowT W (w.heap.size + 1) 37 [.int .u64 (imgPre rows pre)] ∧ Below w.heap.size w W)
    (fun _ _ _ => False)
    (OwnFrom.and (RowT.ownFrom _ _ _ (fun _ => [.slice A rows.length cap])) (OwnFrom.and (RowT.ownFrom _ _ _ (fun pre => [.int .u64 (imgPre rows pre)])) (ownFrom_below (Nat.le_refl _) (by simp; omega))))
    (fun _ _ _ _ _ hs _ _ => hs)
    ⟨(r0.alloc _).alloc _, r1.alloc _, hB0⟩
    (fun x => { tmps := #[.slice A rows.length cap, .int .u64 m, .pointer (some ⟨w.heap.size, 0, none⟩), undef, .int .u64 0, .pointer (some ⟨w.heap.size + 1, 0, none⟩), .int .i64 (x.1 : Nat), .int .u64 m, .func (.func 57) #[] #[.pointer (some ⟨w.heap.size + 1 + 1, 0, none⟩)], .int .i64 (x.1 : Nat), undef, undef, undef, undef, undef, undef, undef], defers := [] }) ?assign ?body ?done ?stop
  case assign =>
    intro l x W K hK
    gi_wp2
    exact hK
  case body =>
    rintro l pre x W ⟨h0, h1, hB⟩ _
    obtain ⟨c0, f0⟩ := h0.one
    obtain ⟨c1, f1⟩ := h1.one
    have hxl : x.1 < rows.length := HJ.out x.1 x.2.1
    obtain ⟨ad, y, hA, hbk, hy, hcy⟩ := (HR.out.below hB).u hxl
    subst hA
    have HY := Lib.hid hy
    clear hy r0 r1 r2
    have hp := imgPre_lt rows HU.out pre
    obtain ⟨P, hP⟩ : ∃ P, imgPre rows pre = P := ⟨_, rfl⟩
    rw [hP] at h1 c1 hp
    have HP := Lib.hid hP
    clear hP
    have hmix : Tryd.prog.follows .mixedOrders = true := by kernel_rfl
    gi_wp2
    gi_region_with_o (fail)
    all_goals gi_wp2
    all_goals exact step_image hp HP.out HY.out (HU.out y (List.mem_of_getElem? HY.out)) h0 h1 hB
  case done =>
    rintro D xs W hD rfl ⟨h0, h1, hB⟩ hK
    obtain ⟨c1, f1⟩ := h1.one
    gi_wp2
    refine ⟨by simp, .inl ⟨_, _, rfl, run_takeDeferred hK, ?_⟩⟩
    exact ⟨_, results_tmp rfl _ _ _, Ret.i rfl (hB.trans (belowK_b (w := w) (Nat.le_refl _) W D _ _ (by simp at hD; omega) hK rfl rfl))⟩
  case stop =>
    rintro D c pre W _ _ h _
    exact h.elim
end Go.Proofs.YtigdecmfieaacaaDoor
