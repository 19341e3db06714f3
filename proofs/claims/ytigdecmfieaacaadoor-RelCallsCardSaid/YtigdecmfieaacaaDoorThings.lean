/-
  Package rel: things, which goes through the bits of a mask; and the library's TrailingZeros64 under it.
-/
import Derived.Test.YtigdecmfieaacaaDoorRelA
import Derived.Test.YtigdecmfieaacaaDoorMarks
import Derived.Lib.TrailingZeros
import Derived.RangeFuncNested
import Derived.RangeFuncBound
import Derived.RangeFuncCalls
import Derived.RangeFuncLeaves
import Derived.RangeFuncBox
import Derived.Shelf.Abstract
import Derived.Shelf.RegionOpen
import Derived.OwnWalkIn
import Derived.TacticsInMore
import Derived.LoopNIn
import Derived.LoopIn
namespace Go.Proofs.YtigdecmfieaacaaDoor
open Go Go.RowKit Go.Shelf
attribute [local go_sem] Oper.semAt_some

/-- The library's table lies in its variable. -/
def Tab (w : World) : Prop := 0 < w.heap.size ∧ ∀ j, j < 64 → w.cell? ⟨0, j, none⟩ = some (.int .u8 (Lib.deBruijn64tab.getD j 0))
theorem Tab.below {w w' : World} {B : Nat} (h : Tab w) (hb : Below B w w') (hB : 0 < B) : Tab w' :=
  ⟨Nat.lt_of_lt_of_le h.1 hb.size, fun j hj => (hb.cell (p := ⟨0, j, none⟩) hB).trans (h.2 j hj)⟩
theorem Tab.on {w w' : World} (h : Tab w) (hb : Below w.heap.size w w') : Tab w' := h.below hb h.1

theorem tz_key (x a : Nat) (hx : x < 18446744073709551616) (hx0 : x ≠ 0) (hlow : x &&& (18446744073709551616 - x) = a) :
    IntKind.u64.wrap (bits BinOp.and IntKind.u64 (x : Int) (IntKind.u64.wrap (-(x : Int))) * 285870213051353865) / 288230376151711744 = ((a * 285870213051353865 % 18446744073709551616 / 288230376151711744 : Nat) : Int) := by
  have e1 : IntKind.u64.wrap (-(x : Int)) = ((18446744073709551616 - x : Nat) : Int) := by rw [IntKind.wrap_u64]; omega
  rw [e1, u64_and_nat x _ hx (by omega), hlow, IntKind.wrap_u64]
  omega
theorem tz_core (x k idx : Nat) (w : World) (hx0 : ((x : Int) == 0) = false)
    (key : IntKind.u64.wrap (bits BinOp.and IntKind.u64 (x : Int) (IntKind.u64.wrap (-(x : Int))) * 285870213051353865) / 288230376151711744 = (idx : Int))
    (hi : idx < 64) (hk : k < 64) (hcell : w.cell? ⟨0, idx, none⟩ = some (.int .u8 k)) :
    Calls Tryd.prog 58 #[.int .u64 x] w fun e w' => e = .returned (.int .i64 k) ∧ w = w' := by
  go_enter Tryd.func58, Tryd.ntmps58
  go_wp2_with (simp only [key])
  go_ret
  exact ⟨rfl, rfl⟩
theorem tz_any (x : Nat) (w : World) (hx0 : x ≠ 0) (hx : x < 18446744073709551616) (hT : Tab w) :
    Calls Tryd.prog 58 #[.int .u64 x] w fun e w' => e = .returned (.int .i64 (Lib.ctz 64 x)) ∧ w = w' := by
  obtain ⟨hlow, hk⟩ := Lib.lowest_bit 64 x hx0 hx
  obtain ⟨hi, htab⟩ := Lib.deBruijn64_at _ hk
  have hcell := hT.2 _ hi
  rw [htab] at hcell
  exact tz_core x _ _ w (by simp; omega) (tz_key x _ hx hx0 hlow) hi hk hcell

/-- What the lowest bit is. -/
theorem ctz_bits (x : Nat) (h0 : x ≠ 0) (h : x < 18446744073709551616) : Lib.ctz 64 x < 64 ∧ x.testBit (Lib.ctz 64 x) = true ∧ ∀ j, j < Lib.ctz 64 x → x.testBit j = false := by
  obtain ⟨m, hm, hk⟩ := Lib.ctzFrom_spec 64 x (by omega) h
  have e : Lib.ctz 64 x = Lib.ctzFrom 64 x := by simp [Lib.ctz, h0]
  rw [e]
  have key : ∀ j, x.testBit j = (decide (Lib.ctzFrom 64 x ≤ j) && (2 * m + 1).testBit (j - Lib.ctzFrom 64 x)) := by
    intro j
    conv => lhs; rw [hm, Nat.mul_comm, Nat.testBit_mul_two_pow]
  refine ⟨hk, ?_, fun j hj => ?_⟩
  · rw [key]; simp [Nat.testBit_zero]
  · rw [key]; simp; omega

/-- One of the bits of a mask. -/
abbrev BitOf (m : Nat) := { j : Nat // m.testBit j = true ∧ j < 64 }
/-- The bits below i of a mask, the least first. -/
def bitsBelow (m i : Nat) : List (BitOf m) := (List.range i).filterMap fun j => if h : m.testBit j = true ∧ j < 64 then some ⟨j, h⟩ else none
def bitsOf (m : Nat) : List (BitOf m) := bitsBelow m 64
theorem bitsBelow_step (m i g : Nat) (h : m.testBit (i + g) = true ∧ i + g < 64) (h0 : ∀ j, j < g → m.testBit (i + j) = false) : bitsBelow m (i + g + 1) = bitsBelow m i ++ [⟨i + g, h⟩] := by
  have e : bitsBelow m (i + g) = bitsBelow m i := by
    clear h
    induction g with
    | zero => rfl
    | succ g ih =>
      have h1 := h0 g (by omega)
      have := ih (fun j hj => h0 j (by omega))
      rw [← this, ← Nat.add_assoc]
      simp [bitsBelow, List.range_succ, h1]
  rw [← e, bitsBelow, List.range_succ, List.filterMap_append]
  simp [bitsBelow, h]
theorem bitsBelow_len (m i : Nat) : (bitsBelow m i).length ≤ i := by
  have := List.length_filterMap_le (fun j => if h : m.testBit j = true ∧ j < 64 then some (⟨j, h⟩ : BitOf m) else none) (List.range i)
  simpa [bitsBelow] using this
theorem bitsBelow_all (m i : Nat) (h : ∀ j, i ≤ j → m.testBit j = false) (hi : i ≤ 64) : bitsBelow m i = bitsOf m := by
  unfold bitsOf
  obtain ⟨d, hd⟩ : ∃ d, 64 = i + d := ⟨64 - i, by omega⟩
  rw [hd]
  clear hd hi
  induction d with
  | zero => rfl
  | succ d ih =>
    rw [ih, ← Nat.add_assoc]
    conv => rhs; rw [bitsBelow, List.range_succ, List.filterMap_append]
    simp [bitsBelow, h (i + d) (by omega)]
theorem bitsBelow_prefix (m i : Nat) (hi : i ≤ 64) : bitsBelow m i <+: bitsOf m := by
  unfold bitsOf
  obtain ⟨d, hd⟩ : ∃ d, 64 = i + d := ⟨64 - i, by omega⟩
  rw [hd]
  clear hd hi
  induction d with
  | zero => exact List.prefix_rfl
  | succ d ih =>
    refine ih.trans ?_
    rw [← Nat.add_assoc]
    conv => rhs; rw [bitsBelow, List.range_succ, List.filterMap_append]
    exact List.prefix_append _ _
theorem div_bit (m k j : Nat) : (m / 2 ^ k).testBit j = m.testBit (k + j) := by rw [Nat.testBit_div_two_pow, Nat.add_comm]
theorem shift_zero (m i : Nat) (h : m / 2 ^ i = 0) : ∀ j, i ≤ j → m.testBit j = false := by
  intro j hj
  obtain ⟨d, rfl⟩ : ∃ d, j = i + d := ⟨j - i, by omega⟩
  rw [← div_bit, h, Nat.zero_testBit]

set_option maxRecDepth 100000 in
set_option maxHeartbeats 1000000 in
theorem things1_in (n l Bs m : Nat) (hn : 1 ≤ n) (hm : m < 18446744073709551616) (n₀ : Nat) (hn₀ : 0 < n₀) (J Jx : List (BitOf m) → World → Prop)
    (hY : ∀ pre x W, J pre W → pre.length < 64 → YieldAt Fence.wide (n - 1) Tryd.prog l #[.int .i64 (x.1 : Nat)] W fun e W' =>
      (e = .returned (.bool true) ∧ J (pre ++ [x]) W' ∧ Below n₀ W W') ∨ (e = .returned (.bool false) ∧ Jx (pre ++ [x]) W'))
    (W : World) (hT : Tab W) (hBs : W.cell? ⟨Bs, 0, none⟩ = some (.int .u64 m)) (h0 : J [] W) :
    CallsIn Fence.wide n Tryd.prog 57 #[.func (.yield l) #[] #[], .pointer (some ⟨Bs, 0, none⟩)] W fun e W' => (∃ v, e = .returned v) ∧
      ((∃ ys, ys = bitsOf m ∧ J ys W') ∨ (∃ pre, pre <+: bitsOf m ∧ Jx pre W')) := by
  have HT := Lib.hid hT
  have HM := Lib.hid hm
  clear hT hm
  refine callsIn_of_wp Tryd.func57 rfl trivial ?_ rfl
  simp only [Tryd.ntmps57, List.size_toArray, List.length_cons, List.length_nil, Nat.reduceAdd, Nat.reduceSub, Array.replicate_succ, Array.replicate_zero, List.push_toArray, List.append_toArray, List.nil_append, List.cons_append]
  gi_wp2
  gi_loopw [3, 4] (fun i r wr => ∃ k : Nat, k ≤ 64 ∧ i = .int .i64 k ∧ r = .int .u64 ((m / 2 ^ k : Nat) : Int) ∧ J (bitsBelow m k) wr ∧ Tab wr)
    (fun i _ _ => 64 - (intOf i).toNat)
  case atStart => exact ⟨0, by omega, rfl, by simp, h0, HT.out⟩
  case round =>
    obtain ⟨k, hk, rfl, rfl, hJ, hTr⟩ := hrel
    clear HT
    have hJ' := Lib.hid hJ
    have hT' := Lib.hid hTr
    clear hJ hTr
    obtain ⟨x, hx⟩ : ∃ x, m / 2 ^ k = x := ⟨_, rfl⟩
    rw [hx]
    have hx' := Lib.hid hx
    have hxm : x ≤ m := by rw [← hx]; exact Nat.div_le_self _ _
    have hxl : Hid (x < 18446744073709551616) := Lib.hid (Nat.lt_of_le_of_lt hxm HM.out)
    clear hx hxm
    by_cases hx0 : x = 0
    · have e0 : ((x : Int) != 0) = false := by simp [hx0]
      have H0 := Lib.hid hx0
      clear hx0
      gi_wp2
      go_end0
      exact ⟨⟨_, rfl⟩, .inl ⟨_, bitsBelow_all m k (shift_zero m k (hx'.out.trans H0.out)) hk, hJ'.out⟩⟩
    · have e0 : ((x : Int) != 0) = true := by simp [hx0]
      obtain ⟨g, hg⟩ : ∃ g, Lib.ctz 64 x = g := ⟨_, rfl⟩
      have hc := fun w h => tz_any x w hx0 hxl.out h
      obtain ⟨hg64, hb1, hb0⟩ := ctz_bits x hx0 hxl.out
      rw [hg] at hc hg64 hb1 hb0
      have hkg : m.testBit (k + g) = true ∧ k + g < 64 := by
        rw [← div_bit, hx'.out]
        refine ⟨hb1, ?_⟩
        rcases Nat.lt_or_ge (k + g) 64 with h | h
        · exact h
        · have e : m.testBit (k + g) = true := by rw [← div_bit, hx'.out]; exact hb1
          rw [Nat.testBit_lt_two_pow (Nat.lt_of_lt_of_le HM.out (Nat.pow_le_pow_right (n := 2) (by decide) h))] at e; cases e
      have hstep := bitsBelow_step m k g hkg (fun j hj => by rw [← div_bit, hx'.out]; exact hb0 j hj)
      have HS := Lib.hid hstep
      have HC := Lib.hid hc
      have hlen : (bitsBelow m k).length < 64 := by have := bitsBelow_len m k; omega
      have hkg64 := hkg.2
      obtain ⟨fn, tmps, assign, body, hy, hR⟩ := hY _ ⟨k + g, hkg⟩ wr hJ'.out hlen
      dsimp only at hy
      rw [Int.natCast_add] at hy
      clear hx0 hg hb1 hb0 hstep hc hlen
      gi_wp2_with (refine ⟨trivial, ?_⟩; gi_at_call 58; refine (callsIn_wide.2 (HC.out _ hT'.out)).mono ?_; rintro e w' ⟨rfl, rfl⟩)
      refine hR.mono ?_
      rintro e W3 (⟨rfl, hJ3, hk3⟩ | ⟨rfl, hJx3⟩)
      · gi_wp2
        go_roundw
        case rel =>
          refine ⟨k + g + 1, by omega, by go_num, ?_, ?_, hT'.out.below hk3 hn₀⟩
          · have e : m / 2 ^ (k + g + 1) = x / 2 ^ g / 2 := by rw [← hx'.out, Nat.div_div_eq_div_mul, Nat.div_div_eq_div_mul, Nat.pow_succ, Nat.pow_add, Nat.mul_assoc]
            rw [e, pow_cast]
            rfl
          · rw [HS.out]; exact hJ3
        case measure => simp [intOf]; omega
      · gi_wp2
        refine bodyPost_ret (results_none rfl _ _ _) rfl ?_
        exact ⟨⟨_, rfl⟩, .inr ⟨_, by rw [← HS.out]; exact bitsBelow_prefix m _ (by omega), hJx3⟩⟩
/-- things(mask): a function value over a box that holds the mask. -/
theorem things_any (m : Nat) (w : World) : Calls Tryd.prog 55 #[.int .u64 m] w fun e w' => e = .returned (.func (.func 57) #[] #[.pointer (some ⟨w.heap.size, 0, none⟩)]) ∧ w.alloc (.cells #[.int .u64 m] 37) = w' := by
  go_enter Tryd.func55, Tryd.ntmps55
  go_wp2
  go_ret
  exact ⟨rfl, rfl⟩
/-- What a range over things(mask) meets: the bits of the mask, the least first. -/
theorem things_stops (n Bs n₀ m : Nat) (hn : 1 ≤ n) (hm : m < 18446744073709551616) (hn₀ : 0 < n₀) (w : World) (hT : Tab w) (hBs : Bs < w.heap.size) (hc : w.cell? ⟨Bs, 0, none⟩ = some (.int .u64 m)) :
    SeqStopsK Fence.wide n Tryd.prog 57 #[.pointer (some ⟨Bs, 0, none⟩)] (fun x : BitOf m => #[Value.int .i64 (x.1 : Nat)]) (Below n₀) (fun ys => ys = bitsOf m) (fun pre => pre <+: bitsOf m) 64 w :=
  fun l J Jx W hW _ _ hY h0 => things1_in n l Bs m hn hm n₀ hn₀ J Jx hY W (hT.on hW) ((hW.cell (p := ⟨Bs, 0, none⟩) hBs).trans hc) h0
end Go.Proofs.YtigdecmfieaacaaDoor
