/-
  Package rel: Pairs.
-/
import Derived.Test.YtigdecmfieaacaaDoorImage2
import Derived.Test.YtigdecmfieaacaaDoorSort
import Derived.Test.YtigdecmfieaacaaDoorRels
import Derived.OwnWalkIn
namespace Go.Proofs.YtigdecmfieaacaaDoor
open Go Go.RowKit Go.Shelf
attribute [local go_sem] Oper.semAt_some

/-- The pairs of row k, as far as they are listed. -/
def pairsRow (k : Nat) {m : Nat} (pre : List (BitOf m)) : List (Int × Int) := pre.map fun x => ((k : Int), ((x.1 : Nat) : Int))
def pairsTo (rows : List Nat) (k : Nat) : List (Int × Int) := (List.range k).flatMap fun i => pairsRow i (bitsOf (rows.getD i 0))
def pairsR (rows : List Nat) : List (Int × Int) := pairsTo rows rows.length
theorem pairsTo_succ (rows : List Nat) (k y : Nat) (h : rows.getD k 0 = y) : pairsTo rows (k + 1) = pairsTo rows k ++ pairsRow k (bitsOf y) := by
  subst h; simp [pairsTo, List.range_succ]
theorem pairsRow_snoc (k : Nat) {m : Nat} (pre : List (BitOf m)) (x : BitOf m) : pairsRow k (pre ++ [x]) = pairsRow k pre ++ [((k : Int), ((x.1 : Nat) : Int))] := by simp [pairsRow]
theorem pairsRow_len (k : Nat) {m : Nat} (pre : List (BitOf m)) (h : pre <+: bitsOf m) : (pairsRow k pre).length ≤ 64 := by
  have := bitsBelow_len m 64
  have := h.length_le
  simp only [pairsRow, List.length_map]
  unfold bitsOf at *
  omega
theorem pairsTo_len (rows : List Nat) (k : Nat) : (pairsTo rows k).length ≤ 64 * k := by
  induction k with
  | zero => simp [pairsTo]
  | succ k ih =>
    rw [pairsTo_succ rows k _ rfl, List.length_append]
    have := pairsRow_len k (bitsOf (rows.getD k 0)) List.prefix_rfl
    omega
theorem prs_snoc (l : List (Int × Int)) (a b : Int) : prs (l ++ [(a, b)]) = prs l ++ [I a, I b] := by simp [prs]
theorem RowT.not_row {W : World} {B : Nat} {t e : TypeId} {cs : List Value} (h : RowT W B t cs) (hte : t ≠ e) {base size k : Nat} {v : Value} {xs : List Value} (hr : W.ownsRow base e size v k xs) : some B ≠ v.ownBlock := by
  rcases hr.2 with ⟨rfl, _⟩ | ⟨g, cap, cur, rfl, _, hgb, _⟩
  · simp [Value.ownBlock]
  · intro e'
    obtain rfl : B = g := by simpa [Value.ownBlock] using e'
    have := (show W.heap[B]? = _ from h).symm.trans hgb
    simp at this
    exact hte this.2
theorem RowT.alone {W : World} {B g : Nat} {t e : TypeId} {cs : List Value} (h : RowT W B t cs) (hte : t ≠ e) {c : Array Value} (hg : W.heap[g]? = some (.cells c e (0, 0))) : B ≠ g := by
  rintro rfl
  have := (show W.heap[B]? = _ from h).symm.trans hg
  simp at this
  exact hte this.2
theorem cell_two_new (w : World) (x y : Value) (t : TypeId) : ∀ j u, [x, y][j]? = some u → (w.alloc (.cells #[x, y] t)).cell? ((⟨w.heap.size, 0, none⟩ : Addr).add j) = some u := by
  intro j u hj
  have e : (⟨w.heap.size, 0, none⟩ : Addr).add j = ⟨w.heap.size, j, none⟩ := by unfold Addr.add; split <;> simp_all
  rw [e, (RowT.new w t [x, y]).cell j]; exact hj
/-- Block bl holds a slice of the call's own, of these pairs. -/
def OwnsL (W : World) (n₀ bl : Nat) (l : List (Int × Int)) : Prop := ∃ v, Boxed W bl 34 v ∧ W.ownsRow n₀ 28 2 v l.length (prs l) ∧ ∃ A c, v = .slice A l.length c
theorem OwnsL.ownFrom {β : Type} (B n₀ bl : Nat) (l : β → List (Int × Int)) : OwnFrom B (fun s W => OwnsL W n₀ bl (l s)) :=
  (holdsRow_own n₀ bl 34 28 2 (fun s => (l s).length) (fun s => prs (l s)) (fun s v => ∃ A c, v = .slice A (l s).length c)).from B
theorem OwnsL.alloc {W : World} {n₀ bl : Nat} {l : List (Int × Int)} (h : OwnsL W n₀ bl l) (o : Obj) : OwnsL (W.alloc o) n₀ bl l := by
  obtain ⟨v, h1, h2, h3⟩ := h
  exact ⟨v, h1.alloc o, h2.alloc o, h3⟩
theorem infoPair : (Tryd.prog.info? 28).map (fun i => (i.zero, i.size, i.bytes)) = some (some (.agg #[.int .i64 0, .int .i64 0]), 2, 16) := by kernel_rfl
/-- One pair more. -/
theorem step_pairs {w W w1 : World} {rv : List Value} {Ds : List Nat} {A : Option Addr} {c bl k bi : Nat} {l : List (Int × Int)} {v' : Value} {p : Int × Int}
    (e1 : RowT W w.heap.size 26 rv) (hb : Boxed W bl 34 (.slice A l.length c)) (ho : W.ownsRow w.heap.size 28 2 (.slice A l.length c) l.length (prs l)) (ei : RowT W bi 3 [.int .i64 k]) (eB : Below w.heap.size w W) (eM : Marked w.heap.size Ds W)
    (hbl : w.heap.size < bl) (hbi : bi ≠ bl)
    (hown' : w1.ownsRow w.heap.size 28 2 v' (l.length + 1) (prs l ++ [I p.1, I p.2])) (hgrow : (W.alloc (.cells #[I p.1, I p.2] 28)).grownBy w1 (Value.ownBlock (.slice A l.length c))) (hv : ∃ A c, v' = .slice A (l.length + 1) c) :
    KeepsOthers W (w1.setCell ⟨bl, 0, none⟩ v') ∧ Below w.heap.size W (w1.setCell ⟨bl, 0, none⟩ v') ∧ RowT (w1.setCell ⟨bl, 0, none⟩ v') w.heap.size 26 rv ∧ OwnsL (w1.setCell ⟨bl, 0, none⟩ v') w.heap.size bl (l ++ [p]) ∧
    RowT (w1.setCell ⟨bl, 0, none⟩ v') bi 3 [.int .i64 k] ∧ Below w.heap.size w (w1.setCell ⟨bl, 0, none⟩ v') ∧ Marked w.heap.size Ds (w1.setCell ⟨bl, 0, none⟩ v') := by
  obtain ⟨h1, h2, h3, h4, h5⟩ := Boxed.appended hb (by decide) ho eB.size (by omega) hown' hgrow
  refine ⟨h4, h5, ?_, ⟨v', h2, by rw [prs_snoc, List.length_append]; exact h3, by rw [List.length_append]; exact hv⟩, ?_, eB.trans h5, eM.keeps h4⟩
  · exact ((e1.alloc _).grown hgrow (e1.not_row (by decide) ho)).far (p := ⟨bl, 0, none⟩) (by simp; omega) _
  · exact ((ei.alloc _).grown hgrow (ei.not_row (by decide) ho)).far (p := ⟨bl, 0, none⟩) hbi _
/-- Marks are taken away: what a slice owns stays. -/
theorem own_marks {W W' : World} {base n sz : Nat} {e : TypeId} {v : Value} {xs : List Value} (h : W.ownsRow base e sz v n xs) (hr : ∀ g t cs, RowT W g t cs → RowT W' g t cs) : W'.ownsRow base e sz v n xs := by
  refine ⟨h.1, ?_⟩
  rcases h.2 with hn | ⟨g, cap, cur, rfl, hb, hgg, rest⟩
  · exact .inl hn
  · refine .inr ⟨g, cap, cur, rfl, hb, ?_, rest⟩
    exact hr g e cur.toList (by unfold RowT; simpa using hgg)
set_option maxRecDepth 100000 in
set_option maxHeartbeats 4000000 in
theorem pairs_ok (rows : List Nat) (A : Option Addr) (cap : Nat) (w : World) (hT : Tab w) (hu : ∀ x ∈ rows, x < 18446744073709551616) (hr : Reads w w.heap.size 1 A rows.length (rows.map U)) (hok : okR rows.length rows = true) :
    Calls Tryd.prog 32 #[.agg #[.int .i64 rows.length, .slice A rows.length cap]] w (RetQ w fun v w' => ∃ A c, v = .slice A (pairsR rows).length c ∧ Reads w' w'.heap.size 2 A (pairsR rows).length (prs (pairsR rows))) := by
  have hlen : rows.length ≤ 64 := by simp [okR] at hok; omega
  have HT := Lib.hid hT
  have HU := Lib.hid hu
  have HR := Lib.hid hr
  have HO := Lib.hid hok
  obtain ⟨i0, hi, hz0, hz1, hz2⟩ := info_parts infoPair
  have HI := Lib.hid hi
  have HZ0 := Lib.hid hz0
  have HZ1 := Lib.hid hz1
  have HZ2 := Lib.hid hz2
  clear hT hu hr hok hi hz0 hz1 hz2
  refine (callsIn_wide (n := 5)).1 ?_
  refine callsIn_of_wp_marks Tryd.func32 rfl trivial ?_ rfl
  simp only [Tryd.ntmps32, List.size_toArray, List.length_cons, List.length_nil, Nat.reduceAdd, Nat.reduceSub, Array.replicate_succ, Array.replicate_zero, List.push_toArray, List.append_toArray, List.nil_append, List.cons_append]
  gi_wp2_with (refine ⟨trivial, ?_⟩; gi_at_call 16; refine (callsIn_wide.2 (check_ok HU.out (HR.out.into (below_alloc _ _)) HO.out)).mono ?_; rintro e w1 ⟨rfl, hb⟩; obtain ⟨hc, hf⟩ := bcell hb; have hz := size_one hb)
  have hB1 : Below w.heap.size w w1 := (below_alloc w _).trans (hb.mono (by simp))
  have c1 := ((RowT.new w 26 [.int .i64 rows.length, .slice A rows.length cap]).below hb (by simp)).alloc (.cells #[.slice none 0 0] 34)
  have hB2 := hB1.alloc hB1.size (.cells #[.slice none 0 0] 34)
  have c2 : OwnsL (w1.alloc (.cells #[.slice none 0 0] 34)) w.heap.size w1.heap.size (pairsTo rows 0) := ⟨_, Boxed.new _ _ _, ⟨rfl, .inl ⟨rfl, rfl⟩⟩, none, 0, rfl⟩
  have hsz : w.heap.size < w1.heap.size := hz
  have hsz2 : (w1.alloc (.cells #[.slice none 0 0] 34)).heap.size = w1.heap.size + 1 := World.size_alloc _ _
  have c3 : w1.heap.size < (w1.alloc (.cells #[.slice none 0 0] 34)).heap.size := by omega
  clear hc hf hb
  refine wpIn_loop (fun a' W => ∃ (u4 u5 u6 u14 u15 u16 u17 u18 u19 u20 u21 u22 u23 u24 u25 u26 u27 : Value) (k : Nat) (Ds : List Nat), a' = { tmps := #[.agg #[.int .i64 rows.length, .slice A rows.length cap], .pointer (some ⟨w.heap.size, 0, none⟩), .slice none 0 0, .pointer (some ⟨w1.heap.size, 0, none⟩), u4, u5, u6, .agg #[.int .i64 rows.length, .slice A rows.length cap], .int .i64 0, .bool false, .pointer (some ⟨w.heap.size, 1, none⟩), .slice A rows.length cap, .int .i64 rows.length, .int .i64 k, u14, u15, u16, u17, u18, u19, u20, u21, u22, u23, u24, u25, u26, u27, undef], defers := Ds.map mark } ∧ k ≤ rows.length ∧
      RowT W w.heap.size 26 [.int .i64 rows.length, .slice A rows.length cap] ∧ OwnsL W w.heap.size w1.heap.size (pairsTo rows k) ∧ w1.heap.size < W.heap.size ∧ Below w.heap.size w W ∧ Marked w.heap.size Ds W)
    (fun a' _ => rows.length - (intOf (a'.tmps.getD 13 undef)).toNat) ?start ?round
  case start => exact ⟨_, _, _, _, _, _, _, _, _, _, _, _, _, _, _, _, _, 0, [], rfl, by omega, c1, c2, c3, hB2, Marked.nil _ _⟩
  case round =>
    rintro a' W ⟨u4, u5, u6, u14, u15, u16, u17, u18, u19, u20, u21, u22, u23, u24, u25, u26, u27, k, Ds, rfl, hk, d1, d2, hW1, hB, hM⟩
    clear c1 c2 c3 hB2 hsz2
    by_cases hlt : k < rows.length
    · obtain ⟨ad, y, hA, hbk, hy, hcy⟩ := (HR.out.below hB).u hlt
      subst hA
      have HY := Lib.hid hy
      have hyu : y < 18446744073709551616 := HU.out y (List.mem_of_getElem? hy)
      have HYU := Lib.hid hyu
      clear hy hyu
      gi_wp2_with (refine ⟨trivial, ?_⟩; gi_at_call 55; refine (callsIn_wide.2 (things_any y _)).mono ?_; rintro e w' ⟨rfl, rfl⟩)
      have hBl := hB.size
      have hBa := (hB.alloc hB.size (.cells #[.int .i64 k] 3)).alloc (by simp only [World.size_alloc]; omega) (.cells #[.int .u64 y] 37)
      have ri := (RowT.new W 3 [.int .i64 k]).alloc (.cells #[.int .u64 y] 37)
      have rm := RowT.new (W.alloc (.cells #[.int .i64 k] 3)) 37 [.int .u64 y]
      rw [World.size_alloc] at rm
      have hMl := hM.lt
      have hkl := pairsTo_len rows k
      refine wpIn_rangeFunc_ownF rfl (by omega) (gf := 57) (lb := #[.pointer (some ⟨W.heap.size + 1, 0, none⟩)]) rfl trivial (enters_of Tryd.func57 (by kernel_rfl) rfl)
        (things_stops (5 - 1) (W.heap.size + 1) w.heap.size y (by omega) HYU.out HT.out.1 _ (HT.out.on hBa) (by simp) rm.one.1) belowK_t (belowK_b (by simp only [World.size_alloc]; omega)) (Below.refl _ _) (fun _ => rfl)
        (fun pre W' => RowT W' w.heap.size 26 [.int .i64 rows.length, .slice (some ad) rows.length cap] ∧ OwnsL W' w.heap.size w1.heap.size (pairsTo rows k ++ pairsRow k pre) ∧
          RowT W' W.heap.size 3 [.int .i64 k] ∧ Below w.heap.size w W' ∧ Marked w.heap.size Ds W')
        (fun _ _ _ => False)
        (OwnFrom.and (RowT.ownFrom _ _ _ (fun _ => _)) (OwnFrom.and (OwnsL.ownFrom _ _ _ (fun pre => pairsTo rows k ++ pairsRow k pre)) (OwnFrom.and (RowT.ownFrom _ _ _ (fun _ => _)) (OwnFrom.and (ownFrom_below (Nat.le_refl _) (by simp only [World.size_alloc]; omega)) (Marked.ownFrom (by intro D hD; have := hMl D hD; simp only [World.size_alloc]; omega))))))
        (fun _ _ _ _ _ hs _ _ => hs)
        ⟨(d1.alloc _).alloc _, by have := (d2.alloc (.cells #[.int .i64 k] 3)).alloc (.cells #[.int .u64 y] 37); simpa [pairsRow] using this, ri, hBa, hM.below (below_two W _ _) hMl⟩
        (fun x => { tmps := #[.agg #[.int .i64 rows.length, .slice (some ad) rows.length cap], .pointer (some ⟨w.heap.size, 0, none⟩), .slice none 0 0, .pointer (some ⟨w1.heap.size, 0, none⟩), .pointer (some ⟨W.heap.size, 0, none⟩), .int .u64 y, .int .i64 (x.1 : Nat), .agg #[.int .i64 rows.length, .slice (some ad) rows.length cap], .int .i64 0, .bool false, .pointer (some ⟨w.heap.size, 1, none⟩), .slice (some ad) rows.length cap, .int .i64 rows.length, .int .i64 k, .bool true, .int .i64 k, .pointer (some (ad.add k)), .int .u64 y, .int .u64 y, .func (.func 57) #[] #[.pointer (some ⟨W.heap.size + 1, 0, none⟩)], .int .i64 (x.1 : Nat), u21, u22, u23, u24, u25, u26, u27, undef], defers := [] }) ?assign ?body ?done ?stop
      case assign =>
        intro l x W' K hK
        gi_wp2
        exact hK
      case body =>
        rintro l pre x W' ⟨e1, ⟨v, hb, ho, A', c', rfl⟩, ei, eB, eM⟩ hpre
        obtain ⟨i0', j0⟩ := ei.one
        have hbc := hb.cell
        have hbf := hb.frozen
        have hlen' : (pairsTo rows k ++ pairsRow k pre).length ≤ 64 * 64 + 64 := by
          rw [List.length_append, show (pairsRow k pre).length = pre.length from List.length_map _]; omega
        have hEB := eB.size
        obtain ⟨lp, hlp⟩ : ∃ lp, pairsTo rows k ++ pairsRow k pre = lp := ⟨_, rfl⟩
        have hsn : pairsTo rows k ++ pairsRow k (pre ++ [x]) = lp ++ [((k : Int), ((x.1 : Nat) : Int))] := by rw [pairsRow_snoc, ← List.append_assoc, hlp]
        rw [hlp] at hb ho hbc hlen'
        have HSN := Lib.hid hsn
        clear hlp hsn ri rm d1 d2
        gi_wp2_with (gi_at_builtin; refine wpListIn_append_own _ rfl _ _ 34 rfl w.heap.size 28 i0 (.agg #[.int .i64 0, .int .i64 0]) 2 16 Tryd.underlying34 HI.out HZ0.out HZ1.out HZ2.out rfl (by decide) _ _ _ rfl (ho.alloc _) ⟨_, 0, none⟩ 1 1 [I k, I x.1] rfl rfl (cell_two_new _ _ _ _) (fun u hu => by rcases List.mem_cons.1 hu with rfl | hu; rfl; rw [List.mem_singleton.1 hu]; rfl) (by unfold maxLen; omega) (by omega) (by simp only [World.size_alloc]; omega) ?_; intro v' w2 hown' hgrow _; obtain ⟨g', cap', rfl⟩ := ownsRow_succ hown'; have hbw := Boxed.kept (hb.alloc _) hgrow (hb.not_row (by decide) ho); have hbwc := hbw.cell; have hbwf := hbw.frozen)
        have hst := step_pairs (p := ((k : Int), ((x.1 : Nat) : Int))) e1 hb ho ei eB eM (by omega) (by omega) hown' hgrow ⟨_, _, rfl⟩
        rw [← HSN.out] at hst
        exact hst
      case done =>
        rintro D ys W' hD rfl ⟨e1, e2, ei, eB, eM⟩ hK
        rw [← pairsTo_succ rows k y (by rw [List.getD_eq_getElem?_getD, HY.out]; rfl)] at e2
        simp only [World.size_alloc] at hD
        gi_wp2
        refine ⟨⟨_, _, _, _, _, _, _, _, _, _, _, _, _, _, _, _, _, k + 1, D :: Ds, rfl, by omega, e1, e2, by have := ei.lt; omega, eB, eM.cons (fun h => by have := hMl D h; omega) (by omega) hK⟩, ?_⟩
        simp [intOf]; omega
      case stop =>
        rintro D c pre W _ _ h _
        exact h.elim
    · obtain rfl : k = rows.length := by omega
      obtain ⟨v, hb, ho, A', c', rfl⟩ := d2
      have hbc := hb.cell
      gi_wp2
      refine leaves_marked Ds _ hM fun W' hb' hr' => ⟨.slice A' (pairsTo rows rows.length).length c', ?_, _, rfl, ⟨A', c', rfl, Reads.of_own (own_marks ho hr')⟩, hB.trans hb'⟩
      simp [results, Tryd.f32, go_sem]
end Go.Proofs.YtigdecmfieaacaaDoor
