/-
  Package rel: Image, first.
-/
import Derived.Test.YtigdecmfieaacaaDoorPlus
import Derived.Test.YtigdecmfieaacaaDoorTurn
namespace Go.Proofs.YtigdecmfieaacaaDoor
open Go Go.RowKit Go.Shelf
attribute [local go_sem] Oper.semAt_some

theorem and_mask_lt (m n : Nat) : m &&& (2 ^ n - 1) < 2 ^ n := by
  have := Nat.and_le_right (n := m) (m := 2 ^ n - 1)
  have := Nat.two_pow_pos n
  omega
set_option maxHeartbeats 1000000 in
theorem Image_ok (a : RA) (m : Nat) (w : World) (hT : Tab w) (hm : m < 18446744073709551616) (hg : a.good w) (hok : a.ok = true) :
    Calls Tryd.prog 27 #[a.val, .int .u64 m] w (Ret w (.int .u64 (img a.rows (m &&& (2 ^ a.rows.length - 1))))) := by
  have hlen : (a.rows.length : Int) = a.n ∧ a.rows.length ≤ 64 := by
    have h := hok
    simp only [RA.ok, okR, Bool.and_eq_true, decide_eq_true_eq] at h
    exact ⟨h.1.2, by omega⟩
  obtain ⟨hn, h64⟩ := hlen
  have HG := Lib.hid hg
  have HO := Lib.hid hok
  have HT := Lib.hid hT
  have HM := Lib.hid hm
  have hAll : ∀ w, Calls Tryd.prog 52 #[.int .i64 a.n] w (Ret w (.int .u64 ((2 ^ a.rows.length - 1 : Nat) : Int))) := fun w => by rw [← hn]; exact all_any _ w h64
  have HAll := Lib.hid hAll
  obtain ⟨K, hK⟩ : ∃ K, m &&& (2 ^ a.rows.length - 1) = K := ⟨_, rfl⟩
  have hKl : K < 2 ^ a.rows.length := by rw [← hK]; exact and_mask_lt _ _
  have hKu : K < 18446744073709551616 := Nat.lt_of_lt_of_le hKl (pow_le_64 _ h64)
  have hand : bits .and .u64 (m : Int) ((2 ^ a.rows.length - 1 : Nat) : Int) = (K : Int) := by
    rw [u64_and_nat _ _ hm (by have := pow_le_64 _ h64; have := Nat.two_pow_pos a.rows.length; omega), hK]
  have HKU := Lib.hid hKu
  have HKB : Hid (∀ j, K.testBit j = true → j < a.rows.length) := Lib.hid (fun j hj => by
    rcases Nat.lt_or_ge j a.rows.length with h' | h'
    · exact h'
    · rw [Nat.testBit_lt_two_pow (Nat.lt_of_lt_of_le hKl (Nat.pow_le_pow_right (by decide) h'))] at hj; cases hj)
  have HKK := Lib.hid hK
  have HAND := Lib.hid hand
  obtain ⟨M, hMM⟩ : ∃ M : Nat, 2 ^ a.rows.length - 1 = M := ⟨_, rfl⟩
  rw [hK]
  clear hg hok hT hm hn hAll hK hKl hKu hand
  rw [hMM] at HAll HAND
  clear hMM
  have hand := HAND.out
  unfold RA.val
  go_enter Tryd.func27, Tryd.ntmps27
  go_wp2_with (go_at_call 16; refine (check_ok HG.out.1 ?_ HO.out).mono ?_; exact HG.out.2.into (below_alloc _ _); rintro e w1 ⟨rfl, hb1⟩; have hz := size_one hb1; have hb2 := (below_alloc w _).trans (hb1.mono (by simp)); obtain ⟨p0, p1, _, _⟩ := ((RowT.new w 26 [.int .i64 a.n, .slice a.A a.rows.length a.cap]).below hb1 (by simp)).two)
  first | go_region_with (first | (go_at_call 52; refine (HAll.out _).mono ?_; rintro e w2 ⟨rfl, hb3⟩; have q0 := (hb3.cell (p := ⟨w.heap.size, 0, none⟩) hz).trans p0; have q1 := (hb3.cell (p := ⟨w.heap.size, 1, none⟩) hz).trans p1; have hb5 := hb2.trans (((Below.refl _ _).drew.trans hb3).mono hb2.size)) | (go_at_call 51; refine (image_any a.rows _ _ K _ ?_ HKU.out HG.out.1 HKB.out ?_).mono ?_; exact HT.out.on hb5; exact HG.out.2.into hb5; rintro e w3 ⟨rfl, hb4⟩)) | fail
  all_goals go_wp2
  all_goals go_ret
  all_goals exact Ret.i rfl (hb5.trans (hb4.mono hb5.size))
set_option maxHeartbeats 1000000 in
theorem Image_bad (a : RA) (m : Nat) (w : World) (hg : a.good w) (hok : a.ok = false) :
    Calls Tryd.prog 27 #[a.val, .int .u64 m] w (Ret w (.int .u64 0)) := by
  have HG := Lib.hid hg
  have HO := Lib.hid hok
  clear hg hok
  unfold RA.val
  go_enter Tryd.func27, Tryd.ntmps27
  go_wp2_with (go_at_call 16; refine (check_bad HG.out.1 ?_ HO.out).mono ?_; exact HG.out.2.into (below_alloc _ _); rintro e w1 ⟨rfl, hb1⟩; have hz := size_one hb1; have hb2 := (below_alloc w _).trans (hb1.mono (by simp)))
  go_ret
  exact Ret.i rfl hb2
end Go.Proofs.YtigdecmfieaacaaDoor
