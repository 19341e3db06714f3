/-
  Package rel: the leaves.
-/
import Derived.Test.YtigdecmfieaacaaDoorRows
import Derived.Test.YtigdecmfieaacaaDoorBase
import Derived.Test.YtigdecmfieaacaaDoorBits
namespace Go.Proofs.YtigdecmfieaacaaDoor
open Go Go.RowKit

theorem counts_any (n : Int) (w : World) : Calls Tryd.prog 49 #[.int .i64 n] w (Ret w (.bool (decide (0 ≤ n ∧ n ≤ 64)))) := by
  by_cases h : 0 ≤ n
  · go_enter Tryd.func49, Tryd.ntmps49
    go_wp2
    go_ret
    exact Ret.b (by simp [h]) (Below.refl _ _)
  · go_enter Tryd.func49, Tryd.ntmps49
    go_wp2
    go_ret
    exact Ret.b (by simp; omega) (Below.refl _ _)
theorem counts_yes (n : Int) (w : World) (h0 : 0 ≤ n) (h1 : n ≤ 64) : Calls Tryd.prog 49 #[.int .i64 n] w (Ret w (.bool true)) := by
  have := counts_any n w; rwa [decide_eq_true ⟨h0, h1⟩] at this
theorem counts_no (n : Int) (w : World) (h : ¬ (0 ≤ n ∧ n ≤ 64)) : Calls Tryd.prog 49 #[.int .i64 n] w (Ret w (.bool false)) := by
  have := counts_any n w; rwa [decide_eq_false h] at this

theorem within_any (n i : Int) (A : Option Addr) (l c : Nat) (w : World) : Calls Tryd.prog 48 #[.agg #[.int .i64 n, .slice A l c], .int .i64 i] w (Ret w (.bool (decide (0 ≤ i ∧ i < n)))) := by
  by_cases h : 0 ≤ i
  · go_enter Tryd.func48, Tryd.ntmps48
    go_wp2
    go_ret
    exact Ret.b (by simp [h]) ((Below.refl _ _).alloc (Nat.le_refl _) _)
  · go_enter Tryd.func48, Tryd.ntmps48
    go_wp2
    go_ret
    exact Ret.b (by simp; omega) ((Below.refl _ _).alloc (Nat.le_refl _) _)

theorem all_any (n : Nat) (w : World) (h1 : n ≤ 64) : Calls Tryd.prog 52 #[.int .i64 n] w (Ret w (.int .u64 ((2 ^ n - 1 : Nat) : Int))) := by
  go_enter Tryd.func52, Tryd.ntmps52
  go_wp2
  go_ret
  exact Ret.i (all_bits n h1) (Below.refl _ _)

theorem holds_any (r : Nat) (j : Nat) (w : World) (h0 : r < 18446744073709551616) (h1 : j < 64) : Calls Tryd.prog 47 #[.int .u64 r, .int .i64 j] w (Ret w (.bool (r.testBit j))) := by
  have H0 := Lib.hid h0
  clear h0
  go_enter Tryd.func47, Tryd.ntmps47
  go_wp2
  go_ret
  exact Ret.b (bit_test r j H0.out) (Below.refl _ _)

/-- May the relation of N things with these rows be? -/
def okR (N : Int) (rows : List Nat) : Bool := decide (0 ≤ N) && decide (N ≤ 64) && decide ((rows.length : Int) = N) && rows.all (fun x => decide (x < 2 ^ N.toNat))
theorem okR_all {n : Nat} {rows : List Nat} (h : n ≤ 64) (hl : rows.length = n) : okR n rows = rows.all (fun x => decide (x < 2 ^ n)) := by
  simp [okR, hl]; omega

theorem check_no (N : Int) (A : Option Addr) (cap : Nat) (rows : List Nat) (w : World) (hN : ¬ (0 ≤ N ∧ N ≤ 64)) :
    Calls Tryd.prog 16 #[.agg #[.int .i64 N, .slice A rows.length cap]] w (Ret w (.int .i64 2)) := by
  go_enter Tryd.func16, Tryd.ntmps16
  go_wp2_with (go_at_call 49; refine (counts_no _ _ hN).mono ?_; rintro e w1 ⟨rfl, hb⟩; obtain ⟨hc, hf⟩ := bcell hb)
  go_ret
  exact Ret.i rfl (((Below.refl _ _).alloc (Nat.le_refl _) _).trans (hb.mono (by simp)))
theorem check_len (N : Int) (A : Option Addr) (cap : Nat) (rows : List Nat) (w : World) (h0 : 0 ≤ N) (h1 : N ≤ 64) (hl : ((rows.length : Int) == N) = false) :
    Calls Tryd.prog 16 #[.agg #[.int .i64 N, .slice A rows.length cap]] w (Ret w (.int .i64 2)) := by
  go_enter Tryd.func16, Tryd.ntmps16
  go_wp2_with (go_at_call 49; refine (counts_yes _ _ h0 h1).mono ?_; rintro e w1 ⟨rfl, hb⟩; obtain ⟨hc, hf⟩ := bcell hb)
  go_ret
  exact Ret.i rfl (((Below.refl _ _).alloc (Nat.le_refl _) _).trans (hb.mono (by simp)))
theorem all_false_of {rows : List Nat} {k x b : Nat} (hx : rows[k]? = some x) (h : ¬ x < b) : rows.all (fun x => decide (x < b)) = false := by
  rw [List.all_eq_false]
  exact ⟨x, List.mem_of_getElem? hx, by simpa using h⟩
theorem take_all {rows : List Nat} {k x b : Nat} (hx : rows[k]? = some x) (h : x < b) (ht : ∀ y ∈ rows.take k, y < b) : ∀ y ∈ rows.take (k + 1), y < b := by
  intro y hy
  rw [List.take_add_one, hx] at hy
  rcases List.mem_append.1 hy with hy | hy
  · exact ht y hy
  · simp at hy; subst hy; exact h
/-- The number that Check answers. -/
def chkN (n : Nat) (rows : List Nat) : Int := if rows.all (fun x => decide (x < 2 ^ n)) = true then 0 else 2
theorem check_rows (A : Option Addr) (cap : Nat) (rows : List Nat) (w : World) (h1 : rows.length ≤ 64) (hu : ∀ x ∈ rows, x < 18446744073709551616)
    (hr : Reads w w.heap.size 1 A rows.length (rows.map U)) :
    Calls Tryd.prog 16 #[.agg #[.int .i64 rows.length, .slice A rows.length cap]] w (Ret w (.int .i64 (chkN rows.length rows))) := by
  have h1' : (rows.length : Int) ≤ 64 := by omega
  have h0' : (0 : Int) ≤ rows.length := by omega
  go_enter Tryd.func16, Tryd.ntmps16
  go_wp2_with (go_at_call 49; refine (counts_yes _ _ h0' h1').mono ?_; rintro e w1 ⟨rfl, hb⟩; obtain ⟨hc, hf⟩ := bcell hb)
  have hB : Below (w.heap.size + 1) (w.alloc (.cells #[.int .i64 rows.length, .slice A rows.length cap] 26)) w1 := hb.mono (by simp)
  clear hb hc hf
  go_loopw [20] (fun i wr => ∃ k : Nat, i = .int .i64 k ∧ k ≤ rows.length ∧ (∀ x ∈ rows.take k, x < 2 ^ rows.length) ∧ Below (w.heap.size + 1) (w.alloc (.cells #[.int .i64 rows.length, .slice A rows.length cap] 26)) wr) (fun i _ => rows.length - (intOf i).toNat)
  case atStart => exact ⟨0, rfl, by omega, by simp, hB⟩
  case round =>
    obtain ⟨k, rfl, hk, hall, hBr⟩ := hrel
    clear hB
    have hall' := Lib.hid hall
    have hu' := Lib.hid hu
    clear hall hu
    have hr' := (hr.alloc (Nat.le_refl _) _).below (hBr.mono (by omega))
    have hr'' := Lib.hid hr'
    clear hr hr'
    have hBw : Below w.heap.size w wr := (below_alloc w _).trans (hBr.mono (by omega))
    obtain ⟨hc, hf⟩ := bcellB hBr
    by_cases hlt : k < rows.length
    · obtain ⟨ad, x, rfl, hbk, hx, hcx⟩ := hr''.out.u hlt
      have hx' := Lib.hid hx
      clear hx
      have hxu : x < 18446744073709551616 := hu'.out x (List.mem_of_getElem? hx'.out)
      have hxu' := Lib.hid hxu
      clear hxu
      go_wp2_with (go_at_call 52; refine (all_any _ _ h1).mono ?_; rintro e w2 ⟨rfl, hb2⟩; obtain ⟨hc2, hf2⟩ := bcell hb2)
      · have hb : (bits .andNot .u64 (x : Int) ((2 ^ rows.length - 1 : Nat) : Int) != 0) = true := by assumption
        rw [over_test x _ hxu'.out h1] at hb
        go_ret
        exact Ret.i (by rw [chkN, all_false_of hx'.out (by simpa using hb)]; rfl) (hBw.trans (hb2.mono hBw.size))
      · have hb : (bits .andNot .u64 (x : Int) ((2 ^ rows.length - 1 : Nat) : Int) != 0) = false := by assumption
        rw [over_test x _ hxu'.out h1] at hb
        go_roundw
        case rel => exact ⟨k + 1, by go_num, by omega, take_all hx'.out (by simpa using hb) hall'.out, hBr.trans (hb2.mono (by have := hBr.size; simpa using this))⟩
        case measure => simp [intOf]; omega
    · go_wp2
      go_ret
      exact Ret.i (by rw [chkN, List.all_eq_true.2 (fun x hx => by rw [List.take_of_length_le (by omega)] at hall'; simpa using hall'.out x hx)]; rfl) hBw
def chk (N : Int) (rows : List Nat) : Int := if okR N rows = true then 0 else 2
theorem check_any (N : Int) (A : Option Addr) (cap : Nat) (rows : List Nat) (w : World) (hu : ∀ x ∈ rows, x < 18446744073709551616) (hr : Reads w w.heap.size 1 A rows.length (rows.map U)) :
    Calls Tryd.prog 16 #[.agg #[.int .i64 N, .slice A rows.length cap]] w (Ret w (.int .i64 (chk N rows))) := by
  by_cases hN : 0 ≤ N ∧ N ≤ 64
  · by_cases hl : (rows.length : Int) = N
    · subst hl
      have := check_rows A cap rows w (by omega) hu hr
      have e : chkN rows.length rows = chk rows.length rows := by unfold chkN chk; rw [okR_all (by omega) rfl]
      rwa [e] at this
    · have e : chk N rows = 2 := by unfold chk okR; simp [hl]
      rw [e]
      exact check_len N A cap rows w hN.1 hN.2 (by simpa using hl)
  · have e : chk N rows = 2 := by
      unfold chk okR
      rw [if_neg]
      simp only [Bool.and_eq_true, decide_eq_true_eq]
      rintro ⟨⟨⟨h1, h2⟩, _⟩, _⟩
      exact hN ⟨h1, h2⟩
    rw [e]
    exact check_no N A cap rows w hN
theorem check_ok {N : Int} {A : Option Addr} {cap : Nat} {rows : List Nat} {w : World} (hu : ∀ x ∈ rows, x < 18446744073709551616) (hr : Reads w w.heap.size 1 A rows.length (rows.map U)) (h : okR N rows = true) :
    Calls Tryd.prog 16 #[.agg #[.int .i64 N, .slice A rows.length cap]] w (Ret w (.int .i64 0)) := by
  have := check_any N A cap rows w hu hr
  rwa [chk, if_pos h] at this
theorem check_bad {N : Int} {A : Option Addr} {cap : Nat} {rows : List Nat} {w : World} (hu : ∀ x ∈ rows, x < 18446744073709551616) (hr : Reads w w.heap.size 1 A rows.length (rows.map U)) (h : okR N rows = false) :
    Calls Tryd.prog 16 #[.agg #[.int .i64 N, .slice A rows.length cap]] w (Ret w (.int .i64 2)) := by
  have := check_any N A cap rows w hu hr
  rwa [chk, if_neg (by simp [h])] at this

theorem info37 : (Tryd.prog.info? 37).map (fun i => (i.zero, i.size, i.bytes)) = some (some (.int .u64 0), 1, 8) := by kernel_rfl
theorem res_rel {fn : Func} {tmps : Array Value} {W : World} {b : Nat} {v0 v1 : Value} (hf : fn.results = #[.cell 2 26]) (hp : tmps[2]? = some (.pointer (some ⟨b, 0, none⟩)))
    (hrow : RowT W b 26 [v0, v1]) : (results fn tmps).run Tryd.prog W = .ok (.agg #[v0, v1]) W := by
  have h0 : W.cell? ⟨b, 0, none⟩ = some v0 := hrow.cell 0
  have h1 : W.cell? ⟨b, 1, none⟩ = some v1 := hrow.cell 1
  simp [results, hf, go_sem, hp, h0, h1]
/-- A relation is handed back out of the result's own block. -/
theorem post_rel {fn : Func} {R : Ending → World → Prop} {a : Act} {W : World} {b : Nat} {v0 v1 : Value} (hf : fn.results = #[.cell 2 26]) (hd : a.defers = []) (hp : a.tmps[2]? = some (.pointer (some ⟨b, 0, none⟩)))
    (hrow : RowT W b 26 [v0, v1]) (h : R (.returned (.agg #[v0, v1])) W) : bodyPost Tryd.prog fn R .ret a W := by
  have h0 : W.cell? ⟨b, 0, none⟩ = some v0 := hrow.cell 0
  have h1 : W.cell? ⟨b, 1, none⟩ = some v1 := hrow.cell 1
  exact bodyPost_ret (v := .agg #[v0, v1]) (by simp [results, hf, go_sem, hp, h0, h1]) hd h

theorem none_ok (n : Nat) (w : World) (h : n ≤ 64) :
    Calls Tryd.prog 13 #[.int .i64 n] w (RetQ w fun v w' => ∃ g, v = .agg #[.int .i64 n, .slice (some ⟨g, 0, none⟩) n n] ∧ w.heap.size ≤ g ∧ RowT w' g 37 ((List.replicate n 0).map U)) := by
  have hmk := fun w => run_make_row' (P := Tryd.prog) 24 37 (.int .u64 0) 8 Tryd.underlying24 info37 rfl .i64 .i64 n (by omega) (by omega) w
  go_enter Tryd.func13, Tryd.ntmps13
  go_wp2_with (go_at_call 49; refine (counts_yes _ _ (by omega) (by omega)).mono ?_; rintro e w1 ⟨rfl, hb⟩; obtain ⟨hc, hf⟩ := bcell hb; have hz : w.heap.size < w1.heap.size := by have := hb.size; simp only [World.size_alloc] at this; omega)
  have hbox : RowT w1 w.heap.size 26 [.int .i64 0, .slice none 0 0] := (RowT.new w 26 [.int .i64 0, .slice none 0 0]).below hb (by simp)
  have hB : Below w.heap.size w w1 := (below_alloc w _).trans (hb.mono (by simp))
  refine post_rel rfl rfl rfl (((hbox.set_ 0 _).set_ 1 _).alloc _) ⟨_, rfl, ⟨w1.heap.size, rfl, by omega, ?_⟩, ((hB.setCell (by simp) _).setCell (by simp) _).alloc (by simp [World.setCell]; omega) _⟩
  have := RowT.made ((w1.setCell ⟨w.heap.size, 0, none⟩ (.int .i64 n)).setCell ⟨w.heap.size, 1, none⟩ (.slice (some ⟨w1.heap.size, 0, none⟩) n n)) 37 (.int .u64 0) n
  rw [map_U_zeros]
  simpa only [size_setCell] using this
theorem none_bad (n : Int) (w : World) (h : ¬ (0 ≤ n ∧ n ≤ 64)) :
    Calls Tryd.prog 13 #[.int .i64 n] w (Ret w (.agg #[.int .i64 0, .slice none 0 0])) := by
  go_enter Tryd.func13, Tryd.ntmps13
  go_wp2_with (go_at_call 49; refine (counts_no _ _ h).mono ?_; rintro e w1 ⟨rfl, hb⟩; obtain ⟨hc, hf⟩ := bcell hb; have hz : w.heap.size < w1.heap.size := by have := hb.size; simp only [World.size_alloc] at this; omega)
  have hbox : RowT w1 w.heap.size 26 [.int .i64 0, .slice none 0 0] := (RowT.new w 26 [.int .i64 0, .slice none 0 0]).below hb (by simp)
  have hB : Below w.heap.size w w1 := (below_alloc w _).trans (hb.mono (by simp))
  exact post_rel rfl rfl rfl ((hbox.set_ 0 _).set_ 1 _) ⟨rfl, (hB.setCell (by simp) _).setCell (by simp) _⟩
end Go.Proofs.YtigdecmfieaacaaDoor
