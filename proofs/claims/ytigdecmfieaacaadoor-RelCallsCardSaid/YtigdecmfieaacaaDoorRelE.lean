/-
  Package rel: slices.Equal, Same, Has.
-/
import Derived.Test.YtigdecmfieaacaaDoorRelD
namespace Go.Proofs.YtigdecmfieaacaaDoor
open Go Go.RowKit

theorem equal_any (xs ys : List Nat) (A B : Option Addr) (c d : Nat) (w : World) (hl : xs.length ≤ 9223372036854775807) (hx : Reads w w.heap.size 1 A xs.length (xs.map U)) (hy : Reads w w.heap.size 1 B ys.length (ys.map U)) :
    Calls Tryd.prog 54 #[.slice A xs.length c, .slice B ys.length d] w (Ret w (.bool (decide (xs = ys)))) := by
  have HX := Lib.hid hx
  have HY := Lib.hid hy
  clear hx hy
  by_cases hlen : xs.length = ys.length
  · have hlb : ((xs.length : Int) != (ys.length : Int)) = false := by simp [hlen]
    have HL := Lib.hid hlen
    clear hlen
    go_enter Tryd.func54, Tryd.ntmps54
    go_wp2
    go_loopw [13] (fun i wr => ∃ k : Nat, i = .int .i64 k ∧ k ≤ xs.length ∧ xs.take k = ys.take k ∧ Below w.heap.size w wr) (fun i _ => xs.length - (intOf i).toNat)
    case atStart => exact ⟨0, rfl, by omega, rfl, Below.refl _ _⟩
    case round =>
      obtain ⟨k, rfl, hk, hall, hB⟩ := hrel
      have HA := Lib.hid hall
      clear hall
      by_cases hlt : k < xs.length
      · obtain ⟨ad, x, rfl, hbk, hx, hcx⟩ := (HX.out.below hB).u hlt
        obtain ⟨ae, y, rfl, hbl, hy, hcy⟩ := (HY.out.below hB).u (show k < ys.length by have := HL.out; omega)
        have hky : k < ys.length := by have := HL.out; omega
        have EX := Lib.hid hx
        have EY := Lib.hid hy
        clear hx hy
        by_cases he : x = y
        · have heb : ((x : Int) != (y : Int)) = false := by simp [he]
          have HE := Lib.hid he
          clear he
          go_wp2
          go_quiet (fail)
          go_wp2
          go_roundw
          case rel => exact ⟨k + 1, by go_num, by omega, by rw [List.take_add_one, List.take_add_one, HA.out, EX.out, EY.out, HE.out], below_drewN' hB _⟩
          case measure => simp [intOf]; omega
        · have heb : ((x : Int) != (y : Int)) = true := by simp; omega
          have HE := Lib.hid he
          clear he
          go_wp2
          go_quiet (fail)
          go_wp2
          go_ret
          refine Ret.b ?_ (below_drewN' hB _)
          rw [eq_comm, decide_eq_false_iff_not]
          intro h
          have e1 := EX.out
          have e2 := EY.out
          rw [h, e2] at e1
          exact HE.out (Option.some.inj e1).symm
      · go_wp2
        go_ret
        refine Ret.b ?_ hB
        have h1 := HA.out
        rw [List.take_of_length_le (by omega), List.take_of_length_le (by have := HL.out; omega)] at h1
        simp [h1]
  · have hlb : ((xs.length : Int) != (ys.length : Int)) = true := by simp; omega
    go_enter Tryd.func54, Tryd.ntmps54
    go_wp2
    go_ret
    exact Ret.b (by rw [eq_comm, decide_eq_false_iff_not]; exact fun h => hlen (by rw [h])) (Below.refl _ _)

/-- Same: of one number, may be, the same rows. -/
theorem same_any (a b : RA) (w : World) (hl : a.rows.length ≤ 9223372036854775807) (ha : a.good w) (hb : b.good w) :
    Calls Tryd.prog 29 #[a.val, b.val] w (Ret w (.bool (alikeL [a, b] && decide (a.rows = b.rows)))) := by
  unfold RA.val
  have HA := Lib.hid ha
  have HB := Lib.hid hb
  clear ha hb
  have hH := HA.out.1
  by_cases hal : alikeL [a, b] = true
  · have HAL := Lib.hid hal
    clear hal hH
    go_enter Tryd.func29, Tryd.ntmps29
    go_wp2_with (first | (go_at_call 50; obtain ⟨r0, r1, r2, hB, ga, gb⟩ := two_boxes a b w HA.out HB.out _ rfl; refine (alike_two a b true _ _ HAL.out r2 ga gb).mono ?_; rintro e w1 ⟨rfl, hb1⟩; have hb2 := hB.trans (hb1.mono hB.size); obtain ⟨p0, p1, _, _⟩ := (r0.below hb1 (by simp only [World.size_alloc]; omega)).two; obtain ⟨q0, q1, _, _⟩ := (r1.below hb1 (by simp only [World.size_alloc]; omega)).two) | (go_at_call 54; refine (equal_any a.rows b.rows _ _ _ _ _ hl ?_ ?_).mono ?_; exact (ga.on hb1).2; exact (gb.on hb1).2; rintro e w2 ⟨rfl, hb3⟩))
    go_ret
    exact Ret.b (by rw [HAL.out]; simp) (hb2.trans (hb3.mono hb2.size))
  · have hal : alikeL [a, b] = false := by simpa using hal
    have HAL := Lib.hid hal
    clear hal hH
    go_enter Tryd.func29, Tryd.ntmps29
    go_wp2_with (go_at_call 50; obtain ⟨r0, r1, r2, hB, ga, gb⟩ := two_boxes a b w HA.out HB.out _ rfl; refine (alike_two a b false _ _ HAL.out r2 ga gb).mono ?_; rintro e w1 ⟨rfl, hb1⟩; have hb2 := hB.trans (hb1.mono hB.size); obtain ⟨p0, p1, _, _⟩ := (r0.below hb1 (by simp only [World.size_alloc]; omega)).two; obtain ⟨q0, q1, _, _⟩ := (r1.below hb1 (by simp only [World.size_alloc]; omega)).two)
    go_ret
    exact Ret.b (by rw [HAL.out]; simp) hb2
end Go.Proofs.YtigdecmfieaacaaDoor
