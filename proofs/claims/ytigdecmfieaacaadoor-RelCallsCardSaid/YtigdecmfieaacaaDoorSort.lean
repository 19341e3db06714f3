/-
  Package rel: Sort.
-/
import Derived.Test.YtigdecmfieaacaaDoorImage2
import Derived.Test.YtigdecmfieaacaaDoorFirst
import Derived.Maps.AppendAt
namespace Go.Proofs.YtigdecmfieaacaaDoor
open Go Go.RowKit

theorem first_cases (back : List Nat) (m : Nat) : firstR back m = -1 ∨ ∃ x : BitOf m, firstR back m = (x.1 : Int) := by
  unfold firstR
  cases h : (bitsOf m).find? (fun i => freeB back m i.1) with
  | none => exact .inl rfl
  | some x => exact .inr ⟨x, rfl⟩
/-- A mask without bit i. -/
def clr (m i : Nat) : Nat := m &&& (18446744073709551615 - 2 ^ i)
theorem clr_bit (m i j : Nat) (hm : m < 18446744073709551616) (hi : i < 64) : (clr m i).testBit j = (m.testBit j && decide (j ≠ i)) := by
  have h2 := pow_lt_64 i hi
  have e := Nat.testBit_two_pow_sub_succ (n := 64) (x := 2 ^ i) (i := j) (by
    have : (2 : Nat) ^ 64 = 18446744073709551616 := by decide
    omega)
  rw [show (2 : Nat) ^ 64 - (2 ^ i + 1) = 18446744073709551615 - 2 ^ i from by
    have : (2 : Nat) ^ 64 = 18446744073709551616 := by decide
    omega] at e
  rw [clr, Nat.testBit_and, e, Nat.testBit_two_pow]
  rcases Nat.lt_or_ge j 64 with h | h
  · by_cases hji : j = i
    · subst hji; simp
    · have : ¬ i = j := fun e => hji e.symm
      simp [h, hji, this]
  · rw [Nat.testBit_lt_two_pow (Nat.lt_of_lt_of_le hm (Nat.pow_le_pow_right (n := 2) (by decide) h))]; rfl
theorem clr_le (m i : Nat) : clr m i ≤ m := Nat.and_le_left
theorem clr_lt {m i : Nat} (hm : m < 18446744073709551616) (hi : i < 64) (hb : m.testBit i = true) : clr m i < m := by
  rcases Nat.lt_or_ge (clr m i) m with h | h
  · exact h
  · have e : clr m i = m := Nat.le_antisymm (clr_le m i) h
    have := clr_bit m i i hm hi
    rw [e, hb] at this
    simp at this
/-- How many bits a mask has. -/
def pc (m : Nat) : Nat := ((List.range 64).filter m.testBit).length
theorem pc_le (m : Nat) : pc m ≤ 64 := by
  have := List.length_filter_le m.testBit (List.range 64)
  simpa [pc] using this
theorem pc_clr {m i : Nat} (hm : m < 18446744073709551616) (hi : i < 64) (hb : m.testBit i = true) : pc (clr m i) + 1 = pc m := by
  have hnd : ((List.range 64).filter m.testBit).Nodup := List.Pairwise.filter _ List.nodup_range
  have hmem : i ∈ (List.range 64).filter m.testBit := by simp [hi, hb]
  have e : (List.range 64).filter (clr m i).testBit = ((List.range 64).filter m.testBit).erase i := by
    rw [hnd.erase_eq_filter, List.filter_filter]
    apply List.filter_congr
    intro j _
    rw [clr_bit m i j hm hi, Bool.and_comm]
    by_cases h : j = i <;> simp [h]
  have hpos := List.length_pos_of_mem hmem
  unfold pc
  rw [e, List.length_erase_of_mem hmem]
  omega
/-- What Sort does with the things that are left. -/
def sortGo (back : List Nat) : Nat → Nat → List Int → Option (List Int)
  | 0, m, acc => if m = 0 then some acc else none
  | f + 1, m, acc => if m = 0 then some acc else if firstR back m < 0 then none else sortGo back f (clr m (firstR back m).toNat) (acc ++ [firstR back m])
def sortR (rows : List Nat) : List Int × Bool := match sortGo (turnR rows) 64 (2 ^ rows.length - 1) [] with
  | some l => (l, true)
  | none => ([], false)
theorem sortGo_neg {back : List Nat} {m : Nat} (f : Nat) (acc : List Int) (hm : m ≠ 0) (h : firstR back m = -1) : sortGo back f m acc = none := by
  cases f with
  | zero => simp [sortGo, hm]
  | succ f => simp [sortGo, hm, h]
theorem sortGo_pos {back : List Nat} {m : Nat} (f x : Nat) (acc : List Int) (hm : m ≠ 0) (h : firstR back m = (x : Int)) : sortGo back (f + 1) m acc = sortGo back f (clr m x) (acc ++ [(x : Int)]) := by
  rw [sortGo, if_neg hm, h, if_neg (by omega), Int.toNat_natCast]
theorem andNot_clr (m i : Nat) (hm : m < 18446744073709551616) (hi : i < 64) : bits .andNot .u64 (m : Int) (IntKind.u64.wrap (2 ^ i)) = ((clr m i : Nat) : Int) := by
  rw [pow_cast, wrap_u64_nat _ (pow_lt_64 i hi), u64_andNot_nat _ _ hm (pow_lt_64 i hi)]; rfl
theorem sortGo_zero (back : List Nat) (f : Nat) (acc : List Int) : sortGo back f 0 acc = some acc := by cases f <;> rfl
/-- Sort's two results. -/
def SortQ (l : List Int) (b : Bool) (v : Value) (w' : World) : Prop := ∃ A c, v = .tuple #[.slice A l.length c, .bool b] ∧ Reads w' w'.heap.size 1 A l.length (l.map I)
theorem first_row (back : List Nat) (N g m : Nat) (W : World) (hN : back.length = N) (hT : Tab W) (hm : m < 18446744073709551616) (hu : ∀ x ∈ back, x < 18446744073709551616) (hj : ∀ j, m.testBit j = true → j < N)
    (hr : RowT W g 37 (back.map U)) : Calls Tryd.prog 53 #[.slice (some ⟨g, 0, none⟩) N N, .int .u64 m] W (Ret W (.int .i64 (firstR back m))) := by
  subst hN
  have := hr.reads
  rw [List.length_map] at this
  exact first_any back _ _ m W hT hm hu hj this
theorem turn_row (a : RA) (N : Nat) (w : World) (hN : a.rows.length = N) (hT : Tab w) (hg : a.good w) (hok : a.ok = true) :
    Calls Tryd.prog 41 #[a.val] w (RetQ w fun v w' => ∃ g, v = .agg #[.int .i64 N, .slice (some ⟨g, 0, none⟩) N N] ∧ w.heap.size ≤ g ∧ RowT w' g 37 ((turnR a.rows).map U)) := by
  have hn : (a.rows.length : Int) = a.n := by
    have h := hok
    simp only [RA.ok, okR, Bool.and_eq_true, decide_eq_true_eq] at h
    exact h.1.2
  have hok' : okR a.rows.length a.rows = true := by rw [hn]; exact hok
  have := turn_ok a.rows a.A a.cap w hT hg.1 hg.2 hok'
  rw [hN] at this
  unfold RA.val
  rw [← hn, hN]
  exact this
theorem turn_lt (rows : List Nat) (h : rows.length ≤ 64) : ∀ x ∈ turnR rows, x < 18446744073709551616 := by
  intro x hx
  obtain ⟨j, _, rfl⟩ := List.mem_map.1 hx
  exact Nat.lt_of_lt_of_le (tcol_lt rows rows.length j) (pow_le_64 _ h)
theorem turnR_length (rows : List Nat) : (turnR rows).length = rows.length := by simp [turnR]
theorem mask_bits {N j : Nat} (h : (2 ^ N - 1).testBit j = true) : j < N := by
  rw [Nat.testBit_two_pow_sub_one] at h; simpa using h

theorem infoInt : (Tryd.prog.info? 3).map (fun i => (i.zero, i.size, i.bytes)) = some (some (.int .i64 0), 1, 8) := by kernel_rfl
set_option maxHeartbeats 2000000 in
theorem sort_ok (a : RA) (w : World) (hT : Tab w) (hg : a.good w) (hok : a.ok = true) :
    Calls Tryd.prog 23 #[a.val] w (RetQ w fun v w' => SortQ (sortR a.rows).1 (sortR a.rows).2 v w') := by
  have hlen : (a.rows.length : Int) = a.n ∧ a.rows.length ≤ 64 := by
    have h := hok
    simp only [RA.ok, okR, Bool.and_eq_true, decide_eq_true_eq] at h
    exact ⟨h.1.2, by omega⟩
  obtain ⟨hn, h64⟩ := hlen
  obtain ⟨N, hN⟩ : ∃ N, a.rows.length = N := ⟨_, rfl⟩
  have HG := Lib.hid hg
  have HO := Lib.hid hok
  have HT := Lib.hid hT
  have HN := Lib.hid hN
  rw [hN] at h64
  have HAll : Hid (∀ w, Calls Tryd.prog 52 #[.int .i64 a.n] w (Ret w (.int .u64 ((2 ^ N - 1 : Nat) : Int)))) := Lib.hid (fun w => by rw [← hn, hN]; exact all_any _ w h64)
  have HBL : Hid ((turnR a.rows).length = N) := Lib.hid ((turnR_length _).trans hN)
  have HBU : Hid (∀ x ∈ turnR a.rows, x < 18446744073709551616) := Lib.hid (turn_lt a.rows (by omega))
  obtain ⟨i0, hi, hz0, hz1, hz2⟩ := info_parts infoInt
  have hmk : ∀ w, (Instr.makeSlice 38 (.int .i64 0) (.int .i64 a.n)).run Tryd.prog w = .ok (.slice (some ⟨w.heap.size, 0, none⟩) 0 N) (w.alloc (.cells (madeCells #[.int .i64 0] N) 3)) := fun w => by
    have := run_make (P := Tryd.prog) (w := w) 38 3 i0 (.int .i64 0) Tryd.underlying38 hi hz0 .i64 .i64 0 (N : Int) (by omega) (by omega) (by rw [hz2]; omega) (by omega)
    rw [← hn, hN]
    simpa [hz1, Value.cells] using this
  have hSR : sortR a.rows = match sortGo (turnR a.rows) 64 (2 ^ N - 1) [] with | some l => (l, true) | none => ([], false) := by unfold sortR; rw [hN]
  have HSR := Lib.hid hSR
  have HI := Lib.hid hi
  have HZ0 := Lib.hid hz0
  have HZ1 := Lib.hid hz1
  have HZ2 := Lib.hid hz2
  clear hg hok hT hN hn hSR hi hz0 hz1 hz2
  obtain ⟨M, hM⟩ : ∃ M : Nat, 2 ^ N - 1 = M := ⟨_, rfl⟩
  rw [hM] at HAll HSR
  have HM := Lib.hid hM
  have hMu : M < 18446744073709551616 := by rw [← hM]; have := pow_le_64 N h64; have := Nat.two_pow_pos N; omega
  have HMU := Lib.hid hMu
  clear hM hMu
  obtain ⟨L, hL⟩ : ∃ L, sortR a.rows = L := ⟨_, rfl⟩
  rw [hL] at HSR ⊢
  clear hL
  have hval : a.val = .agg #[.int .i64 a.n, .slice a.A a.rows.length a.cap] := rfl
  have hturn := fun w hT hg => turn_row a N w HN.out hT hg HO.out
  rw [hval] at hturn ⊢
  have HTU := Lib.hid hturn
  clear hturn hval
  go_enter Tryd.func23, Tryd.ntmps23
  go_wp2_with (first | (go_at_call 16; refine (check_ok HG.out.1 ?_ HO.out).mono ?_; exact HG.out.2.into (below_alloc _ _); rintro e w1 ⟨rfl, hb1⟩; have hz := size_one hb1; have hb2 := (below_alloc w _).trans (hb1.mono (by simp)); obtain ⟨p0, p1, _, _⟩ := ((RowT.new w 26 [.int .i64 a.n, .slice a.A a.rows.length a.cap]).below hb1 (by simp)).two) | (go_at_call 41; refine (HTU.out _ ?_ ?_).mono ?_; exact HT.out.on hb2; exact HG.out.on hb2; rintro e w2 ⟨v, rfl, ⟨g, rfl, hg, hrow⟩, hb3⟩; have hy : w.heap.size < w2.heap.size := (Nat.lt_of_lt_of_le hz hb3.size); have hb4 := hb2.trans (hb3.mono hb2.size); have q0 := (hb3.cell (p := ⟨w.heap.size, 0, none⟩) hz).trans p0; have q1 := (hb3.cell (p := ⟨w.heap.size, 1, none⟩) hz).trans p1) | (go_at_call 52; refine (HAll.out _).mono ?_; rintro e w3 ⟨rfl, hb5⟩; have hx := size_one hb5; have hx2 := (Nat.lt_trans hy hx); have r0 := (hb5.cell (p := ⟨w.heap.size, 0, none⟩) (by simp; omega)).trans ((World.cell?_alloc_lt _ _ _ hy).trans q0)))
  have hsz3 : (w3.alloc (.cells (madeCells #[.int .i64 0] N) 3)).heap.size = w3.heap.size + 1 := World.size_alloc _ _
  have x1 := (((RowT.new w 26 [.int .i64 a.n, .slice a.A a.rows.length a.cap]).below hb1 (by simp)).below hb3 hz).alloc (.cells #[.int .i64 N, .slice (some ⟨g, 0, none⟩) N N] 26)
  have x2 := RowT.new w2 26 [.int .i64 N, .slice (some ⟨g, 0, none⟩) N N]
  have hB3 : Below w.heap.size w w3 := (hb4.alloc hb4.size _).trans (hb5.mono (by simp; omega))
  have x3 := (x1.below hb5 (by simp; omega)).alloc (.cells (madeCells #[.int .i64 0] N) 3)
  have x4 := (x2.below hb5 (by simp)).alloc (.cells (madeCells #[.int .i64 0] N) 3)
  have hgw2 := hrow.lt
  have x5 := ((hrow.alloc (.cells #[.int .i64 N, .slice (some ⟨g, 0, none⟩) N N] 26)).below hb5 (by simp; omega)).alloc (.cells (madeCells #[.int .i64 0] N) 3)
  have hown0 : (w3.alloc (.cells (madeCells #[.int .i64 0] N) 3)).ownsRow w3.heap.size 3 1 (.slice (some ⟨w3.heap.size, 0, none⟩) 0 N) 0 [] :=
    ⟨rfl, .inr ⟨w3.heap.size, N, madeCells #[.int .i64 0] N, rfl, Nat.le_refl _, heap_alloc_new _ _, by omega, by unfold maxLen; omega, by rw [size_madeCells, Nat.mul_one], by simp⟩⟩
  clear x1 x2 hb1 hb2 hb3 hb4 hb5 p0 p1 q0 q1 r0 hrow
  go_loopw [5, 6] (fun r v wr => ∃ (m f : Nat) (acc : List Int) (A : Option Addr) (c : Nat), r = .int .u64 m ∧ v = .slice A acc.length c ∧ wr.ownsRow w3.heap.size 3 1 (.slice A acc.length c) acc.length (acc.map I) ∧ m < 18446744073709551616 ∧
      Hid (∀ j, m.testBit j = true → j < N) ∧ pc m ≤ f ∧ acc.length + pc m ≤ 64 ∧ Hid (sortGo (turnR a.rows) f m acc = sortGo (turnR a.rows) 64 M []) ∧
      RowT wr w2.heap.size 26 [.int .i64 N, .slice (some ⟨g, 0, none⟩) N N] ∧ RowT wr g 37 ((turnR a.rows).map U) ∧ Below w.heap.size w wr ∧ w3.heap.size < wr.heap.size) (fun r _ _ => (intOf r).toNat)
  case atStart => exact ⟨M, 64, [], _, _, rfl, rfl, hown0, HMU.out, Lib.hid (fun j h => mask_bits (by rw [HM.out]; exact h)), pc_le M, by have := pc_le M; simpa using this, Lib.hid rfl, x4, x5, hB3.alloc hB3.size _, by omega⟩
  case round =>
    obtain ⟨m, f, acc, A, c, rfl, rfl, hown, hmu, hmN, hpf, hal, hgo, d2, d3, hBr, hlt3⟩ := hrel
    clear x3 x4 x5 hown0 hB3
    obtain ⟨e0, e1, _, _⟩ := d2.two
    by_cases hm0 : m = 0
    · subst hm0
      go_wp2
      go_ret2
      have e := HSR.out
      rw [← hgo.out, sortGo_zero] at e
      subst e
      exact ⟨_, rfl, ⟨A, c, rfl, Reads.of_own hown⟩, hBr⟩
    · have hm0' : ((m : Int) != 0) = true := by simp; omega
      have HM0 := Lib.hid hm0
      clear hm0
      have HF : Hid (∀ W, Below w.heap.size w W → RowT W g 37 ((turnR a.rows).map U) → Calls Tryd.prog 53 #[.slice (some ⟨g, 0, none⟩) N N, .int .u64 m] W (Ret W (.int .i64 (firstR (turnR a.rows) m)))) :=
        Lib.hid (fun W h1 h2 => first_row (turnR a.rows) N g m W HBL.out (HT.out.on h1) hmu HBU.out hmN.out h2)
      rcases first_cases (turnR a.rows) m with hneg | ⟨x, hx⟩
      · rw [hneg] at HF
        have HNEG := Lib.hid hneg
        clear hneg
        go_wp2_with (go_at_call 53; refine (HF.out _ hBr d3).mono ?_; rintro e w4 ⟨rfl, hb⟩)
        go_ret2
        have e := HSR.out
        rw [← hgo.out, sortGo_neg f acc HM0.out HNEG.out] at e
        subst e
        exact ⟨_, rfl, ⟨none, 0, rfl, Reads.none_⟩, hBr.trans (hb.mono hBr.size)⟩
      · rw [hx] at HF
        have HX := Lib.hid hx
        clear hx
        have h63 : (maxLen : Int) = 9223372036854775807 := rfl
        go_wp2_with (first | (go_at_call 53; refine (HF.out _ hBr d3).mono ?_; rintro e w4 ⟨rfl, hb⟩; have hown4 := own_on hown hb; have hs4 := hb.size) | (at_builtin; refine wpList_append_own _ rfl _ _ 38 rfl w3.heap.size 3 i0 (.int .i64 0) 1 8 Tryd.underlying38 HI.out HZ0.out HZ1.out HZ2.out rfl (by decide) _ _ _ rfl (hown4.alloc _) ⟨_, 0, none⟩ 1 1 [I x.1] rfl rfl (cell_one_new _ _ _) (fun u hu => by rw [List.mem_singleton.1 hu]; rfl) (by unfold maxLen; omega) (by omega) (by simp only [World.size_alloc]; omega) ?_; intro v' w' hown' hgrow _; obtain ⟨g', cap', rfl⟩ := ownsRow_succ hown'))
        have hxN := hmN.out x.1 x.2.1
        have hpc := pc_clr hmu (by omega) x.2.1
        have hclr := clr_lt hmu (by omega) x.2.1
        rw [andNot_clr m x.1 hmu (by omega)]
        go_roundw
        case rel =>
          obtain ⟨f', rfl⟩ : ∃ f', f = f' + 1 := ⟨f - 1, by omega⟩
          have e : acc.length + 1 = (acc ++ [(x.1 : Int)]).length := by simp
          have hne : ∀ b, b < w3.heap.size → some b ≠ Value.ownBlock (.slice A acc.length c) := by
            intro b hb' e'
            rcases hown.2 with ⟨h0, _⟩ | ⟨g', cap, cur, h0, hge, _⟩ <;> rw [h0] at e' <;> simp [Value.ownBlock] at e'
            omega
          have hB5 := ((hBr.trans (hb.mono hBr.size)).alloc (by have := hBr.size; omega) (.cells #[.int .i64 x.1] 3))
          have hgs : (w4.alloc (.cells #[.int .i64 x.1] 3)).heap.size ≤ w'.heap.size := hgrow.size
          rw [World.size_alloc] at hgs
          refine ⟨clr m x.1, f', acc ++ [(x.1 : Int)], some ⟨g', 0, none⟩, cap', rfl, by rw [← e], ?_, by omega, Lib.hid (fun j hj => hmN.out j ?_), by omega, by simp; omega, Lib.hid ((sortGo_pos f' x.1 acc HM0.out HX.out).symm.trans hgo.out), ?_, ?_, ?_, by omega⟩
          · rw [← e, List.map_append]; exact hown'
          · rw [clr_bit m x.1 j hmu (by omega)] at hj; exact (Bool.and_eq_true_iff.1 hj).1
          · exact ((d2.below hb d2.lt).alloc _).grown hgrow (hne _ (by omega))
          · exact ((d3.below hb d3.lt).alloc _).grown hgrow (hne _ (by omega))
          · exact hB5.grown hgrow (by have := hBr.size; simp only [World.size_alloc]; omega) (fun g'' e'' => Nat.le_of_not_lt fun h => hne g'' (by omega) e''.symm)
        case measure => simp [intOf]; omega
theorem sort_bad (a : RA) (w : World) (hg : a.good w) (hok : a.ok = false) :
    Calls Tryd.prog 23 #[a.val] w (Ret w (.tuple #[.slice none 0 0, .bool false])) := by
  have HG := Lib.hid hg
  have HO := Lib.hid hok
  clear hg hok
  have hval : a.val = .agg #[.int .i64 a.n, .slice a.A a.rows.length a.cap] := rfl
  rw [hval]
  go_enter Tryd.func23, Tryd.ntmps23
  go_wp2_with (go_at_call 16; refine (check_bad HG.out.1 ?_ HO.out).mono ?_; exact HG.out.2.into (below_alloc _ _); rintro e w1 ⟨rfl, hb1⟩)
  go_ret2
  exact ⟨rfl, (below_alloc w _).trans (hb1.mono (by simp))⟩
end Go.Proofs.YtigdecmfieaacaaDoor
