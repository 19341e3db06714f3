/-
  The verifier's kit: lists of numbers and relations compared.
-/
import Derived.Test.YtigdecmfieaacaaDoorRelF
namespace Go.Proofs.YtigdecmfieaacaaDoor
open Go Go.RowKit

theorem ints_any (xs ys : List Int) (A B : Option Addr) (c d : Nat) (w : World) (hl : xs.length ≤ 9223372036854775807) (hx : Reads w w.heap.size 1 A xs.length (xs.map I)) (hy : Reads w w.heap.size 1 B ys.length (ys.map I)) :
    Calls Tryd.prog 25 #[.slice A xs.length c, .slice B ys.length d] w (Ret w (.bool (decide (xs = ys)))) := by
  have HX := Lib.hid hx
  have HY := Lib.hid hy
  clear hx hy
  by_cases hlen : xs.length = ys.length
  · have hlb : ((xs.length : Int) != (ys.length : Int)) = false := by simp [hlen]
    have HL := Lib.hid hlen
    clear hlen
    go_enter Tryd.func25, Tryd.ntmps25
    go_wp2
    go_loopw [5] (fun i wr => ∃ k : Nat, i = .int .i64 k ∧ k ≤ xs.length ∧ xs.take k = ys.take k ∧ Below w.heap.size w wr) (fun i _ => xs.length - (intOf i).toNat)
    case atStart => exact ⟨0, rfl, by omega, rfl, Below.refl _ _⟩
    case round =>
      obtain ⟨k, rfl, hk, hall, hB⟩ := hrel
      have HA := Lib.hid hall
      clear hall
      by_cases hlt : k < xs.length
      · obtain ⟨ad, x, rfl, hbk, hx, hcx⟩ := (HX.out.below hB).i hlt
        obtain ⟨ae, y, rfl, hbl, hy, hcy⟩ := (HY.out.below hB).i (show k < ys.length by have := HL.out; omega)
        have hky : k < ys.length := by have := HL.out; omega
        have EX := Lib.hid hx
        have EY := Lib.hid hy
        clear hx hy
        by_cases he : x = y
        · have heb : (x != y) = false := by simp [he]
          have HE := Lib.hid he
          clear he
          go_wp2
          go_quiet (fail)
          go_wp2
          go_roundw
          case rel => exact ⟨k + 1, by go_num, by omega, by rw [List.take_add_one, List.take_add_one, HA.out, EX.out, EY.out, HE.out], below_drewN' hB _⟩
          case measure => simp [intOf]; omega
        · have heb : (x != y) = true := by simp; omega
          have HE := Lib.hid he
          clear he
          go_wp2
          go_quiet (fail)
          go_wp2
          go_ret
          refine Ret.b ?_ (below_drewN' hB _)
          rw [eq_comm, decide_eq_false_iff_not]
          intro h
          have e1 := EX.out
          have e2 := EY.out
          rw [h, e2] at e1
          exact HE.out (Option.some.inj e1).symm
      · go_wp2
        go_ret
        refine Ret.b ?_ hB
        have h1 := HA.out
        rw [List.take_of_length_le (by omega), List.take_of_length_le (by have := HL.out; omega)] at h1
        rw [eq_comm, decide_eq_true_iff]
        exact h1
  · have hlb : ((xs.length : Int) != (ys.length : Int)) = true := by simp; omega
    have HL := Lib.hid hlen
    clear hlen
    go_enter Tryd.func25, Tryd.ntmps25
    go_wp2
    go_ret
    refine Ret.b ?_ (Below.refl _ _)
    rw [eq_comm, decide_eq_false_iff_not]
    intro h
    exact HL.out (by rw [h])
/-- Are they the same: the number, the rows? -/
def sameV (a b : RA) : Bool := decide (a.n = b.n) && decide (a.rows = b.rows)
set_option maxHeartbeats 2000000 in
theorem kitRel_any (a b : RA) (w : World) (hl : a.rows.length ≤ 9223372036854775807) (ha : a.good w) (hb : b.good w) :
    Calls Tryd.prog 14 #[a.val, b.val] w (Ret w (.bool (sameV a b))) := by
  have HX := Lib.hid ha.2
  have HY := Lib.hid hb.2
  obtain ⟨t, ht⟩ : ∃ t, sameV a b = t := ⟨_, rfl⟩
  have HF := Lib.hid ht
  rw [ht]
  unfold RA.val
  clear ha hb ht
  by_cases hn : a.n = b.n
  · have hnb : (a.n != b.n) = false := by simp [hn]
    have HN := Lib.hid hn
    clear hn
    by_cases hlen : a.rows.length = b.rows.length
    · have hlb : ((a.rows.length : Int) != (b.rows.length : Int)) = false := by simp [hlen]
      have HL := Lib.hid hlen
      clear hlen
      go_enter Tryd.func14, Tryd.ntmps14
      go_wp2
      have x0' := (RowT.new w 26 [.int .i64 a.n, .slice a.A a.rows.length a.cap]).alloc (.cells #[.int .i64 b.n, .slice b.A b.rows.length b.cap] 26)
      have x1' := RowT.new (w.alloc (.cells #[.int .i64 a.n, .slice a.A a.rows.length a.cap] 26)) 26 [.int .i64 b.n, .slice b.A b.rows.length b.cap]
      rw [World.size_alloc] at x1'
      go_loopw [5] (fun i wr => ∃ k : Nat, i = .int .i64 k ∧ k ≤ a.rows.length ∧ Hid (a.rows.take k = b.rows.take k) ∧ RowT wr w.heap.size 26 [.int .i64 a.n, .slice a.A a.rows.length a.cap] ∧ RowT wr (w.heap.size + 1) 26 [.int .i64 b.n, .slice b.A b.rows.length b.cap] ∧ Below w.heap.size w wr) (fun i _ => a.rows.length - (intOf i).toNat)
      case atStart => exact ⟨0, rfl, by omega, Lib.hid rfl, x0', x1', below_two _ _ _⟩
      case round =>
        obtain ⟨k, rfl, hk, HA, x0, x1, hB⟩ := hrel
        clear x0' x1'
        obtain ⟨a0, a1, a2, a3⟩ := x0.two
        obtain ⟨b0, b1, b2, b3⟩ := x1.two
        by_cases hlt : k < a.rows.length
        · obtain ⟨ad, x, hA, hbk, hx, hcx⟩ := (HX.out.below hB).u hlt
          obtain ⟨ae, y, hE, hbl, hy, hcy⟩ := (HY.out.below hB).u (show k < b.rows.length by have := HL.out; omega)
          have hky : k < b.rows.length := by have := HL.out; omega
          rw [hA] at a1
          rw [hE] at b1
          have EX := Lib.hid hx
          have EY := Lib.hid hy
          clear hx hy hA hE
          by_cases he : x = y
          · have heb : ((x : Int) != (y : Int)) = false := by simp [he]
            have HE := Lib.hid he
            clear he
            go_wp2
            go_quiet (fail)
            go_wp2
            go_roundw
            case rel => exact ⟨k + 1, by go_num, by omega, Lib.hid (by rw [List.take_add_one, List.take_add_one, HA.out, EX.out, EY.out, HE.out]), x0.drewN _, x1.drewN _, below_drewN' hB _⟩
            case measure => simp [intOf]; omega
          · have heb : ((x : Int) != (y : Int)) = true := by simp; omega
            have HE := Lib.hid he
            clear he
            go_wp2
            go_quiet (fail)
            go_wp2
            go_ret
            refine Ret.b ?_ (below_drewN' hB _)
            rw [← HF.out, sameV, eq_comm, Bool.and_eq_false_iff]
            refine .inr (decide_eq_false fun h => ?_)
            have e1 := EX.out
            have e2 := EY.out
            rw [h, e2] at e1
            exact HE.out (Option.some.inj e1).symm
        · go_wp2
          go_ret
          refine Ret.b ?_ hB
          have h1 := HA.out
          rw [List.take_of_length_le (by omega), List.take_of_length_le (by have := HL.out; omega)] at h1
          rw [← HF.out, sameV, HN.out, h1]; simp
    · have hlb : ((a.rows.length : Int) != (b.rows.length : Int)) = true := by simp; omega
      have HL := Lib.hid hlen
      clear hlen
      go_enter Tryd.func14, Tryd.ntmps14
      go_wp2
      go_ret
      refine Ret.b ?_ (below_two _ _ _)
      rw [← HF.out, sameV, eq_comm, Bool.and_eq_false_iff]
      exact .inr (decide_eq_false fun h => HL.out (by rw [h]))
  · have hnb : (a.n != b.n) = true := by simp [hn]
    have HN := Lib.hid hn
    clear hn
    go_enter Tryd.func14, Tryd.ntmps14
    go_wp2
    go_ret
    refine Ret.b ?_ (below_two _ _ _)
    rw [← HF.out, sameV, eq_comm, Bool.and_eq_false_iff]
    exact .inl (decide_eq_false HN.out)
end Go.Proofs.YtigdecmfieaacaaDoor
