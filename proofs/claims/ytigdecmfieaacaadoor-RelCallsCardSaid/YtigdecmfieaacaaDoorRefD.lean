/-
  The document's answers for layer 1: Check in one form; Has.
-/
import Derived.Test.YtigdecmfieaacaaDoorRefC
import Derived.Test.YtigdecmfieaacaaDoorOf2
namespace Go.Proofs.YtigdecmfieaacaaDoor
open Go Go.RowKit

theorem rcheck_any (N : Int) (A : Option Addr) (cap : Nat) (rows : List Nat) (w : World) (hu : ∀ x ∈ rows, x < 18446744073709551616) (hr : Reads w w.heap.size 1 A rows.length (rows.map U)) :
    Calls Tryd.prog 20 #[.agg #[.int .i64 N, .slice A rows.length cap]] w (Ret w (.int .i64 (chk N rows))) := by
  by_cases hN : 0 ≤ N ∧ N ≤ 64
  · by_cases hl : (rows.length : Int) = N
    · subst hl
      have := rcheck_rows A cap rows w (by omega) hu hr
      have e : chkN rows.length rows = chk rows.length rows := by unfold chkN chk; rw [okR_all (by omega) rfl]
      rwa [e] at this
    · have e : chk N rows = 2 := by unfold chk okR; simp [hl]
      rw [e]
      exact rcheck_len N A cap rows w hN.1 hN.2 (by simpa using hl)
  · have e : chk N rows = 2 := by
      unfold chk okR
      rw [if_neg]
      simp only [Bool.and_eq_true, decide_eq_true_eq]
      rintro ⟨⟨⟨h1, h2⟩, _⟩, _⟩
      exact hN ⟨h1, h2⟩
    rw [e]
    exact rcheck_no N A cap rows w hN
theorem rcheck_ok {N : Int} {A : Option Addr} {cap : Nat} {rows : List Nat} {w : World} (hu : ∀ x ∈ rows, x < 18446744073709551616) (hr : Reads w w.heap.size 1 A rows.length (rows.map U)) (h : okR N rows = true) :
    Calls Tryd.prog 20 #[.agg #[.int .i64 N, .slice A rows.length cap]] w (Ret w (.int .i64 0)) := by
  have := rcheck_any N A cap rows w hu hr
  rwa [chk, if_pos h] at this
theorem rcheck_bad {N : Int} {A : Option Addr} {cap : Nat} {rows : List Nat} {w : World} (hu : ∀ x ∈ rows, x < 18446744073709551616) (hr : Reads w w.heap.size 1 A rows.length (rows.map U)) (h : okR N rows = false) :
    Calls Tryd.prog 20 #[.agg #[.int .i64 N, .slice A rows.length cap]] w (Ret w (.int .i64 2)) := by
  have := rcheck_any N A cap rows w hu hr
  rwa [chk, if_neg (by simp [h])] at this

set_option maxHeartbeats 4000000 in
theorem rhas_any (a : RA) (i j : Int) (w : World) (hg : a.good w) : Calls Tryd.prog 22 #[a.val, .int .i64 i, .int .i64 j] w (Ret w (.bool (hasF a i j))) := by
  obtain ⟨n, A, cap, rows⟩ := a
  have HU := Lib.hid hg.1
  have HR := Lib.hid hg.2
  clear hg
  obtain ⟨t, ht⟩ : ∃ t, hasF ⟨n, A, cap, rows⟩ i j = t := ⟨_, rfl⟩
  have HF := Lib.hid ht
  rw [ht]
  clear ht
  have hval : (RA.mk n A cap rows).val = .agg #[.int .i64 n, .slice A rows.length cap] := rfl
  rw [hval]
  clear hval
  simp only [] at HU HR
  by_cases hok : okR n rows = true
  · have HO := Lib.hid hok
    clear hok
    have fin : ∀ b, ((decide (0 ≤ i ∧ i < n) && decide (0 ≤ j ∧ j < n)) && (rows.getD i.toNat 0).testBit j.toNat) = b → t = b := fun b hb => by
      rw [← HF.out, ← hb, hasF, RA.ok, HO.out, Bool.true_and]
    have FIN := Lib.hid fin
    clear fin
    by_cases h1 : 0 ≤ i
    · by_cases h2 : i < n
      · by_cases h3 : 0 ≤ j
        · by_cases h4 : j < n
          · have hn := HO.out
            simp only [okR, Bool.and_eq_true, decide_eq_true_eq] at hn
            obtain ⟨p, hp⟩ : ∃ p : Nat, i = p := ⟨i.toNat, by omega⟩
            obtain ⟨q, hq⟩ : ∃ q : Nat, j = q := ⟨j.toNat, by omega⟩
            subst hp hq
            have hpl : p < rows.length := by omega
            have hq64 : q < 64 := by omega
            obtain ⟨ad, x, hA, hbk, hx, hc⟩ := HR.out.u hpl
            subst hA
            have e : t = x.testBit q := FIN.out _ (by
              simp [h2, h4, List.getD_eq_getElem?_getD, hx])
            have HE := Lib.hid e
            have HC := Lib.hid (fun W (h : Below w.heap.size w W) => (h.cell (p := ad.add p) (by rw [block_of_add]; exact hbk)).trans hc)
            cases hb : x.testBit q with
            | true =>
              have hbt : ((((x : Int) / 2 ^ q).tmod 2) == 1) = true := by rw [bit_mod]; exact hb
              have HB := Lib.hid hb
              clear hb e hx hc hn
              go_enter Tryd.func22, Tryd.ntmps22
              go_wp2_with (go_at_call 20; refine (rcheck_ok ?_ ?_ ?_).mono ?_; exact HU.out; exact HR.out.into (below_alloc _ _); exact HO.out; rintro e w1 ⟨rfl, hb1⟩; have hz := size_one hb1; have x0 := (RowT.new w 26 [.int .i64 n, .slice (some ad) rows.length cap]).below hb1 (by simp); obtain ⟨a0, a1, a2, a3⟩ := x0.two; have hBc := (below_alloc w _).trans (hb1.mono (by simp)); have hce := HC.out _ hBc)
              go_ret
              exact Ret.b (by rw [HE.out, HB.out]) hBc
            | false =>
              have hbt : ((((x : Int) / 2 ^ q).tmod 2) == 1) = false := by rw [bit_mod]; exact hb
              have HB := Lib.hid hb
              clear hb e hx hc hn
              go_enter Tryd.func22, Tryd.ntmps22
              go_wp2_with (go_at_call 20; refine (rcheck_ok ?_ ?_ ?_).mono ?_; exact HU.out; exact HR.out.into (below_alloc _ _); exact HO.out; rintro e w1 ⟨rfl, hb1⟩; have hz := size_one hb1; have x0 := (RowT.new w 26 [.int .i64 n, .slice (some ad) rows.length cap]).below hb1 (by simp); obtain ⟨a0, a1, a2, a3⟩ := x0.two; have hBc := (below_alloc w _).trans (hb1.mono (by simp)); have hce := HC.out _ hBc)
              go_ret
              exact Ret.b (by rw [HE.out, HB.out]) hBc
          · go_enter Tryd.func22, Tryd.ntmps22
            go_wp2_with (go_at_call 20; refine (rcheck_ok ?_ ?_ ?_).mono ?_; exact HU.out; exact HR.out.into (below_alloc _ _); exact HO.out; rintro e w1 ⟨rfl, hb1⟩; have hz := size_one hb1; have x0 := (RowT.new w 26 [.int .i64 n, .slice A rows.length cap]).below hb1 (by simp); obtain ⟨a0, a1, a2, a3⟩ := x0.two; have hBc := (below_alloc w _).trans (hb1.mono (by simp)))
            go_ret
            exact Ret.b (FIN.out false (by rw [show decide (0 ≤ j ∧ j < n) = false from decide_eq_false (by omega)]; simp)).symm hBc
        · go_enter Tryd.func22, Tryd.ntmps22
          go_wp2_with (go_at_call 20; refine (rcheck_ok ?_ ?_ ?_).mono ?_; exact HU.out; exact HR.out.into (below_alloc _ _); exact HO.out; rintro e w1 ⟨rfl, hb1⟩; have hz := size_one hb1; have x0 := (RowT.new w 26 [.int .i64 n, .slice A rows.length cap]).below hb1 (by simp); obtain ⟨a0, a1, a2, a3⟩ := x0.two; have hBc := (below_alloc w _).trans (hb1.mono (by simp)))
          go_ret
          exact Ret.b (FIN.out false (by rw [show decide (0 ≤ j ∧ j < n) = false from decide_eq_false (by omega)]; simp)).symm hBc
      · go_enter Tryd.func22, Tryd.ntmps22
        go_wp2_with (go_at_call 20; refine (rcheck_ok ?_ ?_ ?_).mono ?_; exact HU.out; exact HR.out.into (below_alloc _ _); exact HO.out; rintro e w1 ⟨rfl, hb1⟩; have hz := size_one hb1; have x0 := (RowT.new w 26 [.int .i64 n, .slice A rows.length cap]).below hb1 (by simp); obtain ⟨a0, a1, a2, a3⟩ := x0.two; have hBc := (below_alloc w _).trans (hb1.mono (by simp)))
        go_ret
        exact Ret.b (FIN.out false (by rw [show decide (0 ≤ i ∧ i < n) = false from decide_eq_false (by omega)]; simp)).symm hBc
    · go_enter Tryd.func22, Tryd.ntmps22
      go_wp2_with (go_at_call 20; refine (rcheck_ok ?_ ?_ ?_).mono ?_; exact HU.out; exact HR.out.into (below_alloc _ _); exact HO.out; rintro e w1 ⟨rfl, hb1⟩; have hz := size_one hb1; have x0 := (RowT.new w 26 [.int .i64 n, .slice A rows.length cap]).below hb1 (by simp); obtain ⟨a0, a1, a2, a3⟩ := x0.two; have hBc := (below_alloc w _).trans (hb1.mono (by simp)))
      go_ret
      exact Ret.b (FIN.out false (by rw [show decide (0 ≤ i ∧ i < n) = false from decide_eq_false (by omega)]; simp)).symm hBc
  · have HO := Lib.hid (show okR n rows = false by simpa using hok)
    clear hok
    go_enter Tryd.func22, Tryd.ntmps22
    go_wp2_with (go_at_call 20; refine (rcheck_bad ?_ ?_ ?_).mono ?_; exact HU.out; exact HR.out.into (below_alloc _ _); exact HO.out; rintro e w1 ⟨rfl, hb1⟩; have hz := size_one hb1; have x0 := (RowT.new w 26 [.int .i64 n, .slice A rows.length cap]).below hb1 (by simp); obtain ⟨a0, a1, a2, a3⟩ := x0.two; have hBc := (below_alloc w _).trans (hb1.mono (by simp)))
    go_ret
    exact Ret.b (by rw [← HF.out, hasF, RA.ok, HO.out]; rfl) hBc
end Go.Proofs.YtigdecmfieaacaaDoor
