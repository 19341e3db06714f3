/-
  The document's answers for layer 1: Of of what may not be; Check.
-/
import Derived.Test.YtigdecmfieaacaaDoorRefB
namespace Go.Proofs.YtigdecmfieaacaaDoor
open Go Go.RowKit

set_option maxHeartbeats 2000000 in
theorem rof_bad (n : Int) (A : Option Addr) (cap : Nat) (l : List (Int × Int)) (w : World) (h : ¬ (0 ≤ n ∧ n ≤ 64)) (hl : l.length ≤ 5000) (hr : Reads w w.heap.size 2 A l.length (prs l)) :
    Calls Tryd.prog 17 #[.int .i64 n, .slice A l.length cap] w (Ret w zeroR) := by
  have HR := Lib.hid hr
  have hN := fun w => rnone_bad n w h
  unfold zeroR at hN ⊢
  have HN := Lib.hid hN
  clear hN hr h
  go_enter Tryd.func17, Tryd.ntmps17
  go_wp2_with (go_at_call 18; refine (HN.out _).mono ?_; rintro e w1 ⟨rfl, hb⟩; have hz := size_one hb)
  have x0 := ((RowT.new w 26 [.int .i64 0, .slice none 0 0]).below hb (by simp)).alloc (.cells #[.int .i64 0, .slice none 0 0] 26)
  have x1 := RowT.new w1 26 [.int .i64 0, .slice none 0 0]
  have hB : Below w.heap.size w w1 := (below_alloc w _).trans (hb.mono (by simp))
  have hB' := hB.alloc hB.size (.cells #[.int .i64 0, .slice none 0 0] 26)
  clear hB hb
  go_loopw [6] (fun i wr => ∃ k : Nat, i = .int .i64 k ∧ k ≤ l.length ∧ RowT wr w1.heap.size 26 [.int .i64 0, .slice none 0 0] ∧ RowT wr w.heap.size 26 [.int .i64 0, .slice none 0 0] ∧ Below w.heap.size w wr) (fun i _ => l.length - (intOf i).toNat)
  case atStart => exact ⟨0, rfl, by omega, x1, x0, hB'⟩
  case round =>
    obtain ⟨k, rfl, hk, d1, d0, hBr⟩ := hrel
    clear x0 x1 hB'
    by_cases hlt : k < l.length
    · obtain ⟨ad, p, rfl, hbk, hp, hc0, hc1⟩ := (HR.out.below hBr).p hlt
      have d1l := d1.lt
      obtain ⟨a0, a1, a2, a3⟩ := d1.two
      clear hp
      by_cases h3 : 0 ≤ p.1
      · have h4 : ¬ p.1 < 0 := by omega
        go_wp2
        go_region
        all_goals
          go_wp2
          go_roundw
          case rel => exact ⟨k + 1, by go_num, by omega, d1.drew, d0.drew, hBr.drew⟩
          case measure => simp [intOf]; omega
      · go_wp2
        go_region
        all_goals
          go_wp2
          go_roundw
          case rel => exact ⟨k + 1, by go_num, by omega, d1.drew, d0.drew, hBr.drew⟩
          case measure => simp [intOf]; omega
    · obtain rfl : k = l.length := by omega
      obtain ⟨a0, a1, a2, a3⟩ := d1.two
      obtain ⟨b0, b1, b2, b3⟩ := d0.two
      have hs := d1.lt
      go_wp2
      exact post_rel4 rfl rfl rfl ((d0.set_ 0 _).set_ 1 _) ⟨rfl, (hBr.setCell (by simp) _).setCell (by simp) _⟩

/-- Has the row no bit from n on, below j? -/
theorem no_bits {x n : Nat} (hx : x < 18446744073709551616) (h : ∀ j, n ≤ j → j < 64 → x.testBit j = false) : x < 2 ^ n := by
  apply Nat.lt_pow_two_of_testBit
  intro i hi
  rcases Nat.lt_or_ge i 64 with h64 | h64
  · exact h i hi h64
  · exact Nat.testBit_lt_two_pow (Nat.lt_of_lt_of_le hx (Nat.pow_le_pow_right (n := 2) (by decide) h64))
theorem some_bit {x n j : Nat} (hj : n ≤ j) (h : x.testBit j = true) : ¬ x < 2 ^ n := by
  intro hx
  rw [Nat.testBit_lt_two_pow (Nat.lt_of_lt_of_le hx (Nat.pow_le_pow_right (by decide) hj))] at h
  cases h
set_option maxHeartbeats 2000000 in
theorem rcheck_no (N : Int) (A : Option Addr) (cap : Nat) (rows : List Nat) (w : World) (hN : ¬ (0 ≤ N ∧ N ≤ 64)) :
    Calls Tryd.prog 20 #[.agg #[.int .i64 N, .slice A rows.length cap]] w (Ret w (.int .i64 2)) := by
  by_cases h0 : N < 0
  · go_enter Tryd.func20, Tryd.ntmps20
    go_wp2
    go_ret
    exact Ret.i rfl (below_alloc w _)
  · have h1 : 64 < N := by omega
    go_enter Tryd.func20, Tryd.ntmps20
    go_wp2
    go_ret
    exact Ret.i rfl (below_alloc w _)
theorem rcheck_len (N : Int) (A : Option Addr) (cap : Nat) (rows : List Nat) (w : World) (h0 : 0 ≤ N) (h1 : N ≤ 64) (hl : ((rows.length : Int) == N) = false) :
    Calls Tryd.prog 20 #[.agg #[.int .i64 N, .slice A rows.length cap]] w (Ret w (.int .i64 2)) := by
  have hl' : ((rows.length : Int) != N) = true := by simpa using hl
  clear hl
  go_enter Tryd.func20, Tryd.ntmps20
  go_wp2
  go_ret
  exact Ret.i rfl (below_alloc w _)
set_option maxHeartbeats 2000000 in
theorem rcheck_rows (A : Option Addr) (cap : Nat) (rows : List Nat) (w : World) (h1 : rows.length ≤ 64) (hu : ∀ x ∈ rows, x < 18446744073709551616)
    (hr : Reads w w.heap.size 1 A rows.length (rows.map U)) :
    Calls Tryd.prog 20 #[.agg #[.int .i64 rows.length, .slice A rows.length cap]] w (Ret w (.int .i64 (chkN rows.length rows))) := by
  have HU := Lib.hid hu
  have HR := Lib.hid hr
  obtain ⟨t, ht⟩ : ∃ t, chkN rows.length rows = t := ⟨_, rfl⟩
  have HT := Lib.hid ht
  rw [ht]
  clear hu hr ht
  go_enter Tryd.func20, Tryd.ntmps20
  go_wp2
  have x0 := RowT.new w 26 [.int .i64 rows.length, .slice A rows.length cap]
  go_loopw [3] (fun i wr => ∃ k : Nat, i = .int .i64 k ∧ k ≤ rows.length ∧ Hid (∀ x ∈ rows.take k, x < 2 ^ rows.length) ∧ RowT wr w.heap.size 26 [.int .i64 rows.length, .slice A rows.length cap] ∧ Below w.heap.size w wr) (fun i _ => rows.length - (intOf i).toNat)
  case atStart => exact ⟨0, rfl, by omega, Lib.hid (by simp), x0, below_alloc w _⟩
  case round =>
    obtain ⟨k, rfl, hk, hall, d0, hB⟩ := hrel
    clear x0
    obtain ⟨a0, a1, a2, a3⟩ := d0.two
    by_cases hlt : k < rows.length
    · obtain ⟨ad, x, hA, hbk, hx, hcx⟩ := (HR.out.below hB).u hlt
      subst hA
      have hxu := HU.out x (List.mem_of_getElem? hx)
      have HX := Lib.hid hx
      have HXU := Lib.hid hxu
      clear hx hxu
      go_wp2
      go_loopw [4] (fun i wi => ∃ j : Nat, i = .int .i64 j ∧ rows.length ≤ j ∧ j ≤ 64 ∧ Hid (∀ i, rows.length ≤ i → i < j → x.testBit i = false) ∧ wi = wr) (fun i _ => 64 - (intOf i).toNat)
      case atStart => exact ⟨rows.length, rfl, by omega, by omega, Lib.hid (fun i h1 h2 => by omega), rfl⟩
      case round =>
        obtain ⟨j, rfl, hj1, hj2, hno, rfl⟩ := hrel
        by_cases hjl : j < 64
        · cases hb : x.testBit j with
          | true =>
            have ht : ((((x : Int) / 2 ^ j).tmod 2) == 1) = true := by rw [bit_mod]; exact hb
            have HBT := Lib.hid hb
            clear hb
            go_wp2
            go_ret
            exact Ret.i (by rw [← HT.out, chkN, all_false_of HX.out (some_bit hj1 HBT.out)]; rfl) hB
          | false =>
            have ht : ((((x : Int) / 2 ^ j).tmod 2) == 1) = false := by rw [bit_mod]; exact hb
            have HBT := Lib.hid hb
            clear hb
            go_wp2
            go_roundw
            case rel =>
              refine ⟨j + 1, by go_num, by omega, by omega, Lib.hid (fun i h2 h3 => ?_), trivial⟩
              by_cases e : i = j
              · subst e; exact HBT.out
              · exact hno.out i h2 (by omega)
            case measure => simp [intOf]; omega
        · obtain rfl : j = 64 := by omega
          go_wp2
          go_roundw
          case rel =>
            exact ⟨k + 1, by go_num, by omega, Lib.hid (take_all HX.out (no_bits HXU.out (fun i h2 h3 => hno.out i h2 h3)) hall.out), d0, hB⟩
          case measure => simp [intOf]; omega
    · go_wp2
      go_ret
      have h := hall.out
      rw [List.take_of_length_le (by omega)] at h
      exact Ret.i (by rw [← HT.out, chkN, List.all_eq_true.2 (fun x hx => by simpa using h x hx)]; rfl) hB
end Go.Proofs.YtigdecmfieaacaaDoor
