/-
  Package rel: Turn.
-/
import Derived.Test.YtigdecmfieaacaaDoorImage
namespace Go.Proofs.YtigdecmfieaacaaDoor
open Go Go.RowKit Go.Shelf
attribute [local go_sem] Oper.semAt_some

/-- Column j of the first i rows. -/
def tcol (rows : List Nat) (i j : Nat) : Nat := (List.range i).foldl (fun acc k => if (rows.getD k 0).testBit j then acc ||| 2 ^ k else acc) 0
theorem tcol_succ (rows : List Nat) (i j : Nat) : tcol rows (i + 1) j = if (rows.getD i 0).testBit j then tcol rows i j ||| 2 ^ i else tcol rows i j := by
  simp [tcol, List.range_succ]
theorem tcol_lt (rows : List Nat) (i j : Nat) : tcol rows i j < 2 ^ i := by
  induction i with
  | zero => simp [tcol]
  | succ i ih =>
    have h2 : tcol rows i j < 2 ^ (i + 1) := Nat.lt_of_lt_of_le ih (Nat.pow_le_pow_right (by decide) (by omega))
    rw [tcol_succ]
    split
    · exact Nat.or_lt_two_pow h2 (Nat.pow_lt_pow_right (by decide) (by omega))
    · exact h2
/-- The rows of the relation turned round. -/
def turnR (rows : List Nat) : List Nat := (List.range rows.length).map (tcol rows rows.length)
/-- Column j while row i is gone through, some of its bits being done. -/
def tin (rows : List Nat) (i : Nat) {m : Nat} (pre : List (BitOf m)) (j : Nat) : Nat := if pre.any (fun y => y.1 == j) then tcol rows i j ||| 2 ^ i else tcol rows i j
theorem tin_nil (rows : List Nat) (i : Nat) {m : Nat} : tin rows i ([] : List (BitOf m)) = tcol rows i := rfl
theorem tin_snoc (rows : List Nat) (i : Nat) {m : Nat} (pre : List (BitOf m)) (x : BitOf m) (j : Nat) :
    tin rows i (pre ++ [x]) j = if j = x.1 then tin rows i pre x.1 ||| 2 ^ i else tin rows i pre j := by
  unfold tin
  by_cases h : j = x.1
  · subst h
    simp only [List.any_append, List.any_cons, beq_self_eq_true, Bool.true_or, Bool.or_true, if_true]
    split
    · rw [Nat.or_assoc, Nat.or_self]
    · rfl
  · have h' : (x.1 == j) = false := by simp; omega
    simp [List.any_append, h', h]
theorem mem_bitsOf {m : Nat} (j : Nat) (h : m.testBit j = true ∧ j < 64) : (⟨j, h⟩ : BitOf m) ∈ bitsOf m := by
  unfold bitsOf bitsBelow
  rw [List.mem_filterMap]
  exact ⟨j, by simp; exact h.2, by simp [h]⟩
theorem tin_all (rows : List Nat) (i m : Nat) (hm : m < 18446744073709551616) (hi : rows.getD i 0 = m) (j : Nat) : tin rows i (bitsOf m) j = tcol rows (i + 1) j := by
  rw [tcol_succ, hi]
  unfold tin
  congr 1
  simp only [eq_iff_iff]
  rw [List.any_eq_true]
  constructor
  · rintro ⟨y, _, hy⟩
    have e : y.1 = j := by simpa using hy
    rw [← e]; exact y.2.1
  · intro h
    have h64 : j < 64 := by
      rcases Nat.lt_or_ge j 64 with h' | h'
      · exact h'
      · rw [Nat.testBit_lt_two_pow (Nat.lt_of_lt_of_le hm (Nat.pow_le_pow_right (n := 2) (by decide) h'))] at h; cases h
    exact ⟨⟨j, h, h64⟩, mem_bitsOf j ⟨h, h64⟩, by simp⟩
theorem tin_lt (rows : List Nat) (i : Nat) {m : Nat} (pre : List (BitOf m)) (j : Nat) (hi : i < 64) : tin rows i pre j < 18446744073709551616 := by
  have h1 := tcol_lt rows i j
  have h2 : (2 : Nat) ^ i < 2 ^ 64 := Nat.pow_lt_pow_right (by decide) hi
  unfold tin
  split
  · exact Nat.or_lt_two_pow (n := 64) (Nat.lt_trans h1 h2) h2
  · exact Nat.lt_trans h1 h2
theorem range_set (n j v : Nat) (f : Nat → Nat) : ((List.range n).map f).set j v = (List.range n).map fun i => if i = j then v else f i := by
  apply List.ext_getElem
  · simp
  · intro i h1 h2
    simp only [List.getElem_set, List.getElem_map, List.getElem_range]
    by_cases h : j = i
    · rw [if_pos h, if_pos h.symm]
    · rw [if_neg h, if_neg (fun e => h e.symm)]
theorem map_zeros (rows : List Nat) (n : Nat) : (List.range n).map (tcol rows 0) = List.replicate n 0 := by
  apply List.ext_getElem <;> simp [tcol]

theorem okR_bits {rows : List Nat} (h : okR rows.length rows = true) {k x j : Nat} (hx : rows[k]? = some x) (hj : x.testBit j = true) : j < rows.length := by
  simp only [okR, Bool.and_eq_true, List.all_eq_true, decide_eq_true_eq] at h
  have := h.2 x (List.mem_of_getElem? hx)
  rcases Nat.lt_or_ge j rows.length with h' | h'
  · exact h'
  · rw [Nat.testBit_lt_two_pow (Nat.lt_of_lt_of_le this (Nat.pow_le_pow_right (by decide) (by simpa using h')))] at hj; cases hj
theorem step_turn {rows : List Nat} {s : Value} {w W W' : World} {b2 g k v : Nat} {sg : Value} {Ds : List Nat} {m : Nat} {pre : List (BitOf m)} {x : BitOf m} (hk : k < 64) (hv : v < 18446744073709551616) (hP : tin rows k pre x.1 = v)
    (hg0 : w.heap.size + 1 < g) (hgb : g < b2) (hgW : g ≠ W.heap.size) (hwg : w.heap.size ≤ g)
    (e1 : RowT W' w.heap.size 26 [.int .i64 rows.length, s]) (e2 : RowT W' (w.heap.size + 1) 26 [.int .i64 0, .slice none 0 0]) (e3 : RowT W' b2 26 [.int .i64 rows.length, sg])
    (ei : RowT W' W.heap.size 3 [.int .i64 k]) (e4 : RowT W' g 37 (((List.range rows.length).map (tin rows k pre)).map U)) (eB : Below w.heap.size w W') (eM : Marked w.heap.size Ds W') :
    KeepsOthers W' (W'.setCell ⟨g, x.1, none⟩ (.int .u64 (bits .or .u64 (v : Int) (IntKind.u64.wrap (2 ^ k))))).drew ∧ Below w.heap.size W' (W'.setCell ⟨g, x.1, none⟩ (.int .u64 (bits .or .u64 (v : Int) (IntKind.u64.wrap (2 ^ k))))).drew ∧
    RowT (W'.setCell ⟨g, x.1, none⟩ (.int .u64 (bits .or .u64 (v : Int) (IntKind.u64.wrap (2 ^ k))))).drew w.heap.size 26 [.int .i64 rows.length, s] ∧
    RowT (W'.setCell ⟨g, x.1, none⟩ (.int .u64 (bits .or .u64 (v : Int) (IntKind.u64.wrap (2 ^ k))))).drew (w.heap.size + 1) 26 [.int .i64 0, .slice none 0 0] ∧
    RowT (W'.setCell ⟨g, x.1, none⟩ (.int .u64 (bits .or .u64 (v : Int) (IntKind.u64.wrap (2 ^ k))))).drew b2 26 [.int .i64 rows.length, sg] ∧
    RowT (W'.setCell ⟨g, x.1, none⟩ (.int .u64 (bits .or .u64 (v : Int) (IntKind.u64.wrap (2 ^ k))))).drew W.heap.size 3 [.int .i64 k] ∧
    RowT (W'.setCell ⟨g, x.1, none⟩ (.int .u64 (bits .or .u64 (v : Int) (IntKind.u64.wrap (2 ^ k))))).drew g 37 (((List.range rows.length).map (tin rows k (pre ++ [x]))).map U) ∧
    Below w.heap.size w (W'.setCell ⟨g, x.1, none⟩ (.int .u64 (bits .or .u64 (v : Int) (IntKind.u64.wrap (2 ^ k))))).drew ∧ Marked w.heap.size Ds (W'.setCell ⟨g, x.1, none⟩ (.int .u64 (bits .or .u64 (v : Int) (IntKind.u64.wrap (2 ^ k))))).drew := by
  have hK : KeepsOthers W' (W'.setCell ⟨g, x.1, none⟩ (.int .u64 (bits .or .u64 (v : Int) (IntKind.u64.wrap (2 ^ k))))).drew := (KeepsOthers.setCell _ _ _).trans (KeepsOthers.drew _)
  refine ⟨hK, ((Below.refl _ _).setCell (p := ⟨g, x.1, none⟩) hwg _).drew, (e1.far (by simp; omega) _).drew, (e2.far (by simp; omega) _).drew, (e3.far (by simp; omega) _).drew, (ei.far (by simp; omega) _).drew, ?_, (eB.setCell (p := ⟨g, x.1, none⟩) hwg _).drew, eM.keeps hK⟩
  have e := (e4.set_ x.1 (U (v ||| 2 ^ k))).drew
  rw [← List.map_set, range_set] at e
  rw [pow_cast, wrap_u64_nat _ (pow_lt_64 k hk), u64_or_nat v _ hv (pow_lt_64 k hk)]
  refine Eq.mp ?_ e
  congr 3
  funext j
  rw [tin_snoc, hP]
set_option maxRecDepth 100000 in
set_option maxHeartbeats 2000000 in
theorem turn_ok (rows : List Nat) (A : Option Addr) (cap : Nat) (w : World) (hT : Tab w) (hu : ∀ x ∈ rows, x < 18446744073709551616) (hr : Reads w w.heap.size 1 A rows.length (rows.map U)) (hok : okR rows.length rows = true) :
    Calls Tryd.prog 41 #[.agg #[.int .i64 rows.length, .slice A rows.length cap]] w (RetQ w fun v w' => ∃ g, v = .agg #[.int .i64 rows.length, .slice (some ⟨g, 0, none⟩) rows.length rows.length] ∧ w.heap.size ≤ g ∧ RowT w' g 37 ((turnR rows).map U)) := by
  have hlen : rows.length ≤ 64 := by simp [okR] at hok; omega
  have HT := Lib.hid hT
  have HU := Lib.hid hu
  have HR := Lib.hid hr
  have HJ : Hid (∀ (x : Nat) {k : Nat}, rows[k]? = some x → ∀ j, x.testBit j = true → j < rows.length) := Lib.hid (fun x k hx j hj => okR_bits hok hx hj)
  have HO := Lib.hid hok
  clear hT hu hr hok
  refine (callsIn_wide (n := 5)).1 ?_
  refine callsIn_of_wp_marks Tryd.func41 rfl trivial ?_ rfl
  simp only [Tryd.ntmps41, List.size_toArray, List.length_cons, List.length_nil, Nat.reduceAdd, Nat.reduceSub, Array.replicate_succ, Array.replicate_zero, List.push_toArray, List.append_toArray, List.nil_append, List.cons_append]
  gi_wp2_with (refine ⟨trivial, ?_⟩; first | (gi_at_call 16; refine (callsIn_wide.2 (check_ok HU.out (HR.out.into (below_two _ _ _)) HO.out)).mono ?_; rintro e w1 ⟨rfl, hb⟩; obtain ⟨hc, hf⟩ := bcell hb; obtain ⟨hz0, hz⟩ := size_two hb) | (gi_at_call 13; refine (callsIn_wide.2 (none_ok rows.length _ hlen)).mono ?_; rintro e w2 ⟨v, rfl, ⟨g, rfl, hg, hrow⟩, hb2⟩; obtain ⟨hc2, hf2⟩ := bcell hb2; have hz2 := hb2.size; have hz3 : w.heap.size + 1 < w2.heap.size := (by omega); have hz4 : w.heap.size < w2.heap.size := (by omega)))
  have b1 := ((RowT.new w 26 [.int .i64 rows.length, .slice A rows.length cap]).alloc (.cells #[.int .i64 0, .slice none 0 0] 26)).below hb (by simp only [World.size_alloc]; omega)
  have b2 := (RowT.new (w.alloc (.cells #[.int .i64 rows.length, .slice A rows.length cap] 26)) 26 [.int .i64 0, .slice none 0 0]).below hb (by simp)
  have hB1 : Below w.heap.size w w1 := (below_two w _ _).trans (hb.mono (by simp only [World.size_alloc]; omega))
  have hB2 : Below w.heap.size w w2 := hB1.trans (hb2.mono hB1.size)
  simp only [World.size_alloc] at b2
  have c1 := (b1.below hb2 hz0).alloc (.cells #[.int .i64 rows.length, .slice (some ⟨g, 0, none⟩) rows.length rows.length] 26)
  have c2 := (b2.below hb2 hz).alloc (.cells #[.int .i64 rows.length, .slice (some ⟨g, 0, none⟩) rows.length rows.length] 26)
  have c3 := RowT.new w2 26 [.int .i64 rows.length, .slice (some ⟨g, 0, none⟩) rows.length rows.length]
  have c4 := hrow.alloc (.cells #[.int .i64 rows.length, .slice (some ⟨g, 0, none⟩) rows.length rows.length] 26)
  have hgl := hrow.lt
  have hB3 := hB2.alloc hB2.size (.cells #[.int .i64 rows.length, .slice (some ⟨g, 0, none⟩) rows.length rows.length] 26)
  rw [← map_zeros rows rows.length] at c4
  clear b1 b2 hc hc2 hf hf2 hb hb2 hrow hB2
  refine wpIn_loop (fun a' W => ∃ (u4 u5 u6 u18 u19 u20 u21 u22 u23 u24 u25 u26 u27 u28 u29 u30 u31 u32 u33 u34 : Value) (k : Nat) (Ds : List Nat), a' = { tmps := #[.agg #[.int .i64 rows.length, .slice A rows.length cap], .pointer (some ⟨w.heap.size, 0, none⟩), .pointer (some ⟨w.heap.size + 1, 0, none⟩), .pointer (some ⟨w2.heap.size, 0, none⟩), u4, u5, u6, .agg #[.int .i64 rows.length, .slice A rows.length cap], .int .i64 0, .bool false, undef, .pointer (some ⟨w.heap.size, 0, none⟩), .int .i64 rows.length, .agg #[.int .i64 rows.length, .slice (some ⟨g, 0, none⟩) rows.length rows.length], .pointer (some ⟨w.heap.size, 1, none⟩), .slice A rows.length cap, .int .i64 rows.length, .int .i64 k, u18, u19, u20, u21, u22, u23, u24, u25, u26, u27, u28, u29, u30, u31, u32, u33, u34, undef], defers := Ds.map mark } ∧ k ≤ rows.length ∧
      RowT W w.heap.size 26 [.int .i64 rows.length, .slice A rows.length cap] ∧ RowT W (w.heap.size + 1) 26 [.int .i64 0, .slice none 0 0] ∧ RowT W w2.heap.size 26 [.int .i64 rows.length, .slice (some ⟨g, 0, none⟩) rows.length rows.length] ∧
      RowT W g 37 (((List.range rows.length).map (tcol rows k)).map U) ∧ Below w.heap.size w W ∧ Marked w.heap.size Ds W)
    (fun a' _ => rows.length - (intOf (a'.tmps.getD 17 undef)).toNat) ?start ?round
  case start => exact ⟨_, _, _, _, _, _, _, _, _, _, _, _, _, _, _, _, _, _, _, _, 0, [], rfl, by omega, c1, c2, c3, c4, hB3, Marked.nil _ _⟩
  case round =>
    rintro a' W ⟨u4, u5, u6, u18, u19, u20, u21, u22, u23, u24, u25, u26, u27, u28, u29, u30, u31, u32, u33, u34, k, Ds, rfl, hk, d1, d2, d3, d4, hB, hM⟩
    clear c1 c2 c3 c4 hB3
    by_cases hlt : k < rows.length
    · obtain ⟨ad, y, hA, hbk, hy, hcy⟩ := (HR.out.below hB).u hlt
      subst hA
      have HY := Lib.hid hy
      have hyu : y < 18446744073709551616 := HU.out y (List.mem_of_getElem? hy)
      have HYU := Lib.hid hyu
      clear hy hyu
      gi_wp2_with (refine ⟨trivial, ?_⟩; gi_at_call 55; refine (callsIn_wide.2 (things_any y _)).mono ?_; rintro e w' ⟨rfl, rfl⟩)
      have hBa := (hB.alloc hB.size (.cells #[.int .i64 k] 3)).alloc (by simp only [World.size_alloc]; have := hB.size; omega) (.cells #[.int .u64 y] 37)
      have ri := (RowT.new W 3 [.int .i64 k]).alloc (.cells #[.int .u64 y] 37)
      have rm := RowT.new (W.alloc (.cells #[.int .i64 k] 3)) 37 [.int .u64 y]
      rw [World.size_alloc] at rm
      have hBl := hB.size
      have hd3 := d3.lt
      have hgW := d4.lt
      have hMl := hM.lt
      refine wpIn_rangeFunc_ownF rfl (by omega) (gf := 57) (lb := #[.pointer (some ⟨W.heap.size + 1, 0, none⟩)]) rfl trivial (enters_of Tryd.func57 (by kernel_rfl) rfl)
        (things_stops (5 - 1) (W.heap.size + 1) w.heap.size y (by omega) HYU.out HT.out.1 _ (HT.out.on hBa) (by simp) rm.one.1) belowK_t (belowK_b (by simp only [World.size_alloc]; omega)) (Below.refl _ _) (fun _ => rfl)
        (fun pre W' => RowT W' w.heap.size 26 [.int .i64 rows.length, .slice (some ad) rows.length cap] ∧ RowT W' (w.heap.size + 1) 26 [.int .i64 0, .slice none 0 0] ∧ RowT W' w2.heap.size 26 [.int .i64 rows.length, .slice (some ⟨g, 0, none⟩) rows.length rows.length] ∧
          RowT W' W.heap.size 3 [.int .i64 k] ∧ RowT W' g 37 (((List.range rows.length).map (tin rows k pre)).map U) ∧ Below w.heap.size w W' ∧ Marked w.heap.size Ds W')
        (fun _ _ _ => False)
        (OwnFrom.and (RowT.ownFrom _ _ _ (fun _ => _)) (OwnFrom.and (RowT.ownFrom _ _ _ (fun _ => _)) (OwnFrom.and (RowT.ownFrom _ _ _ (fun _ => _)) (OwnFrom.and (RowT.ownFrom _ _ _ (fun _ => _)) (OwnFrom.and (RowT.ownFrom _ _ _ (fun pre => ((List.range rows.length).map (tin rows k pre)).map U)) (OwnFrom.and (ownFrom_below (Nat.le_refl _) (by simp only [World.size_alloc]; omega)) (Marked.ownFrom (by intro D hD; have := hMl D hD; simp only [World.size_alloc]; omega))))))))
        (fun _ _ _ _ _ hs _ _ => hs)
        ⟨(d1.alloc _).alloc _, (d2.alloc _).alloc _, (d3.alloc _).alloc _, ri, by rw [tin_nil]; exact (d4.alloc _).alloc _, hBa, hM.below (below_two W _ _) hMl⟩
        (fun x => { tmps := #[.agg #[.int .i64 rows.length, .slice (some ad) rows.length cap], .pointer (some ⟨w.heap.size, 0, none⟩), .pointer (some ⟨w.heap.size + 1, 0, none⟩), .pointer (some ⟨w2.heap.size, 0, none⟩), .pointer (some ⟨W.heap.size, 0, none⟩), .int .u64 y, .int .i64 (x.1 : Nat), .agg #[.int .i64 rows.length, .slice (some ad) rows.length cap], .int .i64 0, .bool false, undef, .pointer (some ⟨w.heap.size, 0, none⟩), .int .i64 rows.length, .agg #[.int .i64 rows.length, .slice (some ⟨g, 0, none⟩) rows.length rows.length], .pointer (some ⟨w.heap.size, 1, none⟩), .slice (some ad) rows.length cap, .int .i64 rows.length, .int .i64 k, .bool true, .int .i64 k, .pointer (some (ad.add k)), .int .u64 y, .int .u64 y, .func (.func 57) #[] #[.pointer (some ⟨W.heap.size + 1, 0, none⟩)], .int .i64 (x.1 : Nat), u25, u26, u27, u28, u29, u30, u31, u32, u33, u34, undef], defers := [] }) ?assign ?body ?done ?stop
      case assign =>
        intro l x W' K hK
        gi_wp2
        exact hK
      case body =>
        rintro l pre x W' ⟨e1, e2, e3, ei, e4, eB, eM⟩ _
        obtain ⟨p0, p1, q0, q1⟩ := e3.two
        obtain ⟨i0, j0⟩ := ei.one
        have hmix : Tryd.prog.follows .mixedOrders = true := by kernel_rfl
        have hxl : x.1 < rows.length := HJ.out y HY.out x.1 x.2.1
        have hk64 : k < 64 := by omega
        obtain ⟨v, hv⟩ : ∃ v, tin rows k pre x.1 = v := ⟨_, rfl⟩
        have hvl : Hid (v < 18446744073709551616) := by rw [← hv]; exact Lib.hid (tin_lt rows k pre x.1 hk64)
        have hcv : W'.cell? ⟨g, x.1, none⟩ = some (.int .u64 (v : Int)) := by
          rw [e4.cell x.1, ← hv]; simp [hxl]
        have hfv := e4.frozen x.1
        have HV := Lib.hid hv
        clear hv ri rm d1 d2 d3 d4
        gi_wp2
        gi_region_with_o (fail)
        all_goals gi_wp2
        all_goals exact step_turn hk64 hvl.out HV.out (by omega) (by omega) (by omega) (by omega) e1 e2 e3 ei e4 eB eM
      case done =>
        rintro D ys W' hD rfl ⟨e1, e2, e3, ei, e4, eB, eM⟩ hK
        have etl : (List.range rows.length).map (tin rows k (bitsOf y)) = (List.range rows.length).map (tcol rows (k + 1)) :=
          List.map_congr_left fun j _ => tin_all rows k y HYU.out (by rw [List.getD_eq_getElem?_getD, HY.out]; rfl) j
        rw [etl] at e4
        simp only [World.size_alloc] at hD
        gi_wp2
        refine ⟨⟨_, _, _, _, _, _, _, _, _, _, _, _, _, _, _, _, _, _, _, _, k + 1, D :: Ds, rfl, by omega, e1, e2, e3, e4, eB, eM.cons (fun h => by have := hMl D h; omega) (by omega) hK⟩, ?_⟩
        simp [intOf]; omega
      case stop =>
        rintro D c pre W _ _ h _
        exact h.elim
    · obtain rfl : k = rows.length := by omega
      obtain ⟨p0, p1, q0, q1⟩ := d2.two
      obtain ⟨p2, p3, q2, q3⟩ := d3.two
      have hd3 := d3.lt
      gi_wp2
      have hK : KeepsOthers W ((W.setCell ⟨w.heap.size + 1, 0, none⟩ (.int .i64 rows.length)).setCell ⟨w.heap.size + 1, 1, none⟩ (.slice (some ⟨g, 0, none⟩) rows.length rows.length)) := (KeepsOthers.setCell _ _ _).trans (KeepsOthers.setCell _ _ _)
      refine leaves_marked Ds _ (hM.keeps hK) fun W' hb' hr' => ⟨_, res_rel rfl rfl (hr' _ _ _ ((d2.set_ 0 _).set_ 1 _)), _, rfl, ⟨g, rfl, by omega, hr' _ _ _ ((d4.far (by simp; omega) _).far (by simp; omega) _)⟩, ?_⟩
      exact ((hB.setCell (by simp) _).setCell (by simp) _).trans hb'
end Go.Proofs.YtigdecmfieaacaaDoor
