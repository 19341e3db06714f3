/-
  Package rel: Acyclic.
-/
import Derived.Test.YtigdecmfieaacaaDoorPlus
namespace Go.Proofs.YtigdecmfieaacaaDoor
open Go Go.RowKit
attribute [local go_sem] Instr.field asAgg

/-- Does no row have its own bit? -/
def noLoop (rows : List Nat) : Bool := (List.range rows.length).all fun i => !(rows.getD i 0).testBit i
theorem plusL_length (rows : List Nat) : (plusL rows).length = rows.length := wks_length rows _
theorem noLoop_bad {rows : List Nat} {k x : Nat} (hx : rows[k]? = some x) (h : x.testBit k = true) : noLoop rows = false := by
  have hk := (List.getElem?_eq_some_iff.1 hx).1
  unfold noLoop
  rw [List.all_eq_false]
  exact ⟨k, by simpa using hk, by simp [List.getD_eq_getElem?_getD, hx, h]⟩
theorem noLoop_good {rows : List Nat} (h : ∀ i < rows.length, (rows.getD i 0).testBit i = false) : noLoop rows = true := by
  unfold noLoop
  rw [List.all_eq_true]
  intro i hi
  rw [h i (by simpa using hi)]; rfl
def acyclicF (a : RA) : Bool := a.ok && noLoop (plusL a.rows)
set_option maxHeartbeats 2000000 in
theorem acyclic_any (a : RA) (w : World) (hg : a.good w) : Calls Tryd.prog 10 #[a.val] w (Ret w (.bool (acyclicF a))) := by
  have HG := Lib.hid hg
  obtain ⟨b, hb⟩ : ∃ b, acyclicF a = b := ⟨_, rfl⟩
  have HF := Lib.hid hb
  rw [hb]
  clear hb hg
  have hval : a.val = .agg #[.int .i64 a.n, .slice a.A a.rows.length a.cap] := rfl
  by_cases hok : a.ok = true
  · have HO := Lib.hid hok
    have HP := Lib.hid (fun w hg => plus_ok a w hg hok)
    have hn := hok
    simp only [RA.ok, okR, Bool.and_eq_true, decide_eq_true_eq] at hn
    have h64 : (plusL a.rows).length ≤ 64 := by rw [plusL_length]; omega
    have HU : Hid (∀ x ∈ plusL a.rows, x < 18446744073709551616) := Lib.hid (fun x hx => by
      have := wks_lt (rows := a.rows) (N := a.rows.length) (fun x hx => by
        have := List.all_eq_true.1 hn.2 x hx
        rw [show a.n.toNat = a.rows.length from by omega] at this
        simpa using this) a.rows.length x hx
      exact Nat.lt_of_lt_of_le this (pow_le_64 _ (by omega)))
    clear hok hn
    obtain ⟨R, hR⟩ : ∃ R, plusL a.rows = R := ⟨_, rfl⟩
    have HR := Lib.hid hR
    rw [hR] at HP HU h64
    clear hR
    rw [hval] at HP ⊢
    go_enter Tryd.func10, Tryd.ntmps10
    go_wp2_with (first | (go_at_call 16; refine (check_ok HG.out.1 ?_ HO.out).mono ?_; exact HG.out.2.into (below_alloc _ _); rintro e w1 ⟨rfl, hb1⟩; have hz := size_one hb1; have x0 := (RowT.new w 26 [.int .i64 a.n, .slice a.A a.rows.length a.cap]).below hb1 (by simp); obtain ⟨a0, a1, a2, a3⟩ := x0.two; have hBc := (below_alloc w _).trans (hb1.mono (by simp))) | (go_at_call 43; refine (HP.out _ ?_).mono ?_; exact HG.out.on hBc; rintro e w2 ⟨v, rfl, ⟨g, rfl, hg, hrow⟩, hb2⟩; replace hBc := hBc.trans (hb2.mono hBc.size)))
    clear a0 a1 a2 a3 x0 hb1 hb2
    go_loopw [12] (fun i wr => ∃ k : Nat, i = .int .i64 k ∧ k ≤ R.length ∧ (∀ i < k, (R.getD i 0).testBit i = false) ∧ RowT wr g 37 (R.map U) ∧ Below w.heap.size w wr) (fun i _ => R.length - (intOf i).toNat)
    case atStart => exact ⟨0, rfl, by omega, by simp, hrow, hBc⟩
    case round =>
      obtain ⟨k, rfl, hk, hall, hr, hBr⟩ := hrel
      have HALL := Lib.hid hall
      clear hall hrow hBc
      by_cases hlt : k < R.length
      · obtain ⟨x, hx⟩ : ∃ x, R[k]? = some x := ⟨_, List.getElem?_eq_getElem hlt⟩
        have hxu := HU.out x (List.mem_of_getElem? hx)
        have hc := hr.cell k
        rw [List.getElem?_map, hx] at hc
        replace hc : wr.cell? ⟨g, k, none⟩ = some (.int .u64 (x : Int)) := hc
        have HX := Lib.hid hx
        have HXU := Lib.hid hxu
        have hk64 : k < 64 := by omega
        obtain ⟨t, ht⟩ : ∃ t, x.testBit k = t := ⟨_, rfl⟩
        have HH : Hid (∀ w, Calls Tryd.prog 47 #[.int .u64 x, .int .i64 k] w (Ret w (.bool t))) := Lib.hid (fun w => by rw [← ht]; exact holds_any x k w hxu hk64)
        have HT := Lib.hid ht
        clear hx hxu ht
        cases t with
        | true =>
          go_wp2_with (go_at_call 47; refine (HH.out _).mono ?_; rintro e w3 ⟨rfl, hb3⟩)
          go_ret
          exact Ret.b (by rw [← HF.out, acyclicF, HR.out, noLoop_bad HX.out HT.out, Bool.and_false]) (hBr.trans (hb3.mono hBr.size))
        | false =>
          go_wp2_with (go_at_call 47; refine (HH.out _).mono ?_; rintro e w3 ⟨rfl, hb3⟩)
          go_roundw
          case rel =>
            refine ⟨k + 1, by go_num, by omega, ?_, hr.below hb3 hr.lt, hBr.trans (hb3.mono hBr.size)⟩
            intro i hi
            by_cases h : i = k
            · subst h; rw [List.getD_eq_getElem?_getD, HX.out]; exact HT.out
            · exact HALL.out i (by omega)
          case measure => simp [intOf]; omega
      · obtain rfl : k = R.length := by omega
        go_wp2
        go_ret
        exact Ret.b (by rw [← HF.out, acyclicF, HO.out, HR.out, noLoop_good HALL.out, Bool.and_self]) hBr
  · have HO := Lib.hid (show a.ok = false by simpa using hok)
    rw [hval]
    go_enter Tryd.func10, Tryd.ntmps10
    go_wp2_with (go_at_call 16; refine (check_bad HG.out.1 ?_ HO.out).mono ?_; exact HG.out.2.into (below_alloc _ _); rintro e w1 ⟨rfl, hb1⟩)
    go_ret
    exact Ret.b (by rw [← HF.out, acyclicF, HO.out]; simp) ((below_alloc w _).trans (hb1.mono (by simp)))
end Go.Proofs.YtigdecmfieaacaaDoor
