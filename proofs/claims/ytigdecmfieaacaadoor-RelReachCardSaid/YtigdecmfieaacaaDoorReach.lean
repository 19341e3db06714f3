/-
  Of any relation that may be, any bits, any other bits, the statement RelReach answers true: what Image of Plus tells is the least that the steps lead to.
-/
import Derived.Test.YtigdecmfieaacaaDoorLives
import Derived.Test.YtigdecmfieaacaaDoorPure
namespace Go.Proofs.YtigdecmfieaacaaDoor
open Go Go.RowKit

theorem check_c {a : RA} (w : World) (hg : a.good w) : Calls Tryd.prog 16 #[a.val] w (Ret w (.int .i64 (chk a.n a.rows))) := check_any a.n a.A a.cap a.rows w hg.1 hg.2
set_option maxHeartbeats 2000000 in
theorem reach_bad (a : RA) (f o : Nat) (w : World) (hT : Tab w) (hg : a.good w) (hf : f < 18446744073709551616) (hok : ¬ a.pr.ok = true) :
    Calls Tryd.prog 8 #[a.val, .int .u64 f, .int .u64 o] w (Ret w (.bool true)) := by
  have HT := Lib.hid hT
  have HG := Lib.hid hg
  have HO := Lib.hid hok
  have HF := Lib.hid hf
  clear hT hg hok hf
  have hval : a.val = .agg #[.int .i64 a.n, .slice a.A a.rows.length a.cap] := rfl
  rw [hval]
  go_enter Tryd.func8, Tryd.ntmps8
  go_wp2_with (first | (go_at_call 9; refine (lives_yes _ (HT.out.on (below_alloc _ _))).mono ?_; rintro e w1 ⟨rfl, hb1⟩; have hz := size_one hb1; have hBc := (below_alloc w _).next hb1; have x0 := (RowT.new w 26 [.int .i64 a.n, .slice a.A a.rows.length a.cap]).below hb1 (by simp); obtain ⟨a0, a1, a2, a3⟩ := x0.two) | (go_at_call 16; refine (check_bad HG.out.1 (HG.out.on hBc).2 (PR.bad HO.out)).mono ?_; rintro e w2 ⟨rfl, hb2⟩; replace hBc := hBc.next hb2; replace x0 := x0.below hb2 hz; obtain ⟨a0, a1, a2, a3⟩ := x0.two) | (go_at_call 27; refine (Image_bad a f _ (HG.out.on hBc) (PR.bad HO.out)).mono ?_; rintro e w3 ⟨rfl, hb3⟩; replace hBc := hBc.next hb3))
  go_ret
  exact Ret.b rfl hBc
set_option maxHeartbeats 2000000 in
theorem reach_ok (a : RA) (f o : Nat) (w : World) (hT : Tab w) (hg : a.good w) (hf : f < 18446744073709551616) (ho : o < 18446744073709551616) (hok : a.pr.ok = true) :
    Calls Tryd.prog 8 #[a.val, .int .u64 f, .int .u64 o] w (Ret w (.bool true)) := by
  obtain ⟨hn, h64, hlt⟩ := (PR.ok_iff a.pr).1 hok
  obtain ⟨N, hN⟩ : ∃ N, a.rows.length = N := ⟨_, rfl⟩
  have hR : OKR N a.rows := ⟨hN, by have := hlt; rw [show a.pr.rows = a.rows from rfl, hN] at this; exact this⟩
  have hN64 : N ≤ 64 := by rw [← hN]; exact h64
  have hp64 := pow_le_64 N hN64
  -- what the calls answer
  obtain ⟨F, hF⟩ : ∃ F, f &&& (2 ^ N - 1) = F := ⟨_, rfl⟩
  obtain ⟨s, hs⟩ : ∃ s, img (plusL a.rows) F = s := ⟨_, rfl⟩
  obtain ⟨t, ht⟩ : ∃ t, img a.rows F = t := ⟨_, rfl⟩
  obtain ⟨u, hu⟩ : ∃ u, img a.rows (s &&& (2 ^ N - 1)) = u := ⟨_, rfl⟩
  obtain ⟨X, hX⟩ : ∃ X, o ||| t = X := ⟨_, rfl⟩
  obtain ⟨v, hv⟩ : ∃ v, img a.rows (X &&& (2 ^ N - 1)) = v := ⟨_, rfl⟩
  have hFu : F < 18446744073709551616 := by rw [← hF]; exact Nat.lt_of_le_of_lt Nat.and_le_left hf
  have hsu : s < 18446744073709551616 := by rw [← hs]; exact Nat.lt_of_lt_of_le (img_lt (plusL_ok hR).2 F) hp64
  have htu : t < 18446744073709551616 := by rw [← ht]; exact Nat.lt_of_lt_of_le (img_lt hR.2 F) hp64
  have huu : u < 18446744073709551616 := by rw [← hu]; exact Nat.lt_of_lt_of_le (img_lt hR.2 _) hp64
  have hvu : v < 18446744073709551616 := by rw [← hv]; exact Nat.lt_of_lt_of_le (img_lt hR.2 _) hp64
  have hXu : X < 18446744073709551616 := by
    rw [← hX]; exact Nat.or_lt_two_pow (n := 64) ho htu
  have b1 : (bits .andNot .u64 (t : Int) (s : Int) != 0) = false := sub_yes htu hsu (fun j h => by rw [← hs]; rw [← ht] at h; exact reach_has hFu h)
  have b2 : (bits .andNot .u64 (u : Int) (s : Int) != 0) = false := sub_yes huu hsu (fun j h => by rw [← hs]; rw [← hu, ← hs] at h; exact reach_on hN64 hR hFu h)
  have b3 : bits .or .u64 (o : Int) (t : Int) = (X : Int) := by rw [u64_or_nat o t ho htu, hX]
  have b4 : (bits .andNot .u64 (v : Int) (X : Int) != 0) = false → (bits .andNot .u64 (s : Int) (X : Int) == 0) = true := fun h =>
    sub_eq hsu hXu (fun j hj => by
      rw [← hs] at hj
      refine reach_least hR hFu hXu (fun j hk => ?_) (fun j hk => ?_) j hj
      · rw [← hX, Nat.testBit_or, ← ht, hk, Bool.or_true]
      · rw [hv] at hk; exact sub_of hvu hXu h j hk)
  have cf : Pimage a.pr f = t := by rw [Pimage, if_pos hok, show a.pr.rows = a.rows from rfl, hN, hF, ht]
  have cs : Pimage a.pr s = u := by rw [Pimage, if_pos hok, show a.pr.rows = a.rows from rfl, hN, hu]
  have cX : Pimage a.pr X = v := by rw [Pimage, if_pos hok, show a.pr.rows = a.rows from rfl, hN, hv]
  have cp : ∀ p, Pplus a.pr = p → Pimage p f = s := by
    rintro p rfl
    have e : Pplus a.pr = ⟨a.n, plusL a.rows⟩ := by rw [Pplus, if_pos hok]; rfl
    have hpo : (⟨a.n, plusL a.rows⟩ : PR).ok = true := (PR.ok_iff _).2 ⟨by rw [plusL_length]; exact hn, by rw [plusL_length]; exact h64, by rw [plusL_length, hN]; exact (plusL_ok hR).2⟩
    rw [e, Pimage, if_pos hpo, plusL_length, hN, hF, hs]
  have HT := Lib.hid hT
  have HG := Lib.hid hg
  have HO := Lib.hid hok
  have HF := Lib.hid hf
  have HS := Lib.hid hsu
  have HX := Lib.hid hXu
  have HB4 := Lib.hid b4
  have HCF := Lib.hid cf
  have HCS := Lib.hid cs
  have HCX := Lib.hid cX
  have HCP := Lib.hid cp
  clear hT hg hok hf ho hn h64 hlt hR hF hs ht hu hX hv hFu hsu htu huu hvu hXu b4 cf cs cX cp hN
  have hval : a.val = .agg #[.int .i64 a.n, .slice a.A a.rows.length a.cap] := rfl
  rw [hval]
  go_enter Tryd.func8, Tryd.ntmps8
  go_wp2_with (first | (go_at_call 9; refine (lives_yes _ (HT.out.on (below_alloc _ _))).mono ?_; rintro e w1 ⟨rfl, hb1⟩; have hz := size_one hb1; have hBc := (below_alloc w _).next hb1; have x0 := (RowT.new w 26 [.int .i64 a.n, .slice a.A a.rows.length a.cap]).below hb1 (by simp); obtain ⟨a0, a1, a2, a3⟩ := x0.two) | (go_at_call 16; refine (check_ok HG.out.1 (HG.out.on hBc).2 HO.out).mono ?_; rintro e w2 ⟨rfl, hb2⟩; replace hBc := hBc.next hb2; replace x0 := x0.below hb2 x0.lt; obtain ⟨a0, a1, a2, a3⟩ := x0.two) | (go_at_call 43; refine (plus_c _ rfl (HG.out.on hBc)).mono ?_; rintro e w3 ⟨p, rfl, hpp, hpg, hb3⟩; replace hBc := hBc.next hb3; replace x0 := x0.below hb3 x0.lt; obtain ⟨a0, a1, a2, a3⟩ := x0.two) | (go_at_call 27; have _m := w7; refine (image_c _ HCX.out (HT.out.on hBc) HX.out (HG.out.on hBc)).mono ?_; rintro e w8 ⟨rfl, hb8⟩; replace hBc := hBc.next hb8) | (go_at_call 27; have _m := w6; refine (image_c _ HCF.out (HT.out.on hBc) HF.out (HG.out.on hBc)).mono ?_; rintro e w7 ⟨rfl, hb7⟩; replace hBc := hBc.next hb7; replace x0 := x0.below hb7 x0.lt; obtain ⟨a0, a1, a2, a3⟩ := x0.two) | (go_at_call 27; have _m := w5; refine (image_c _ HCS.out (HT.out.on hBc) HS.out (HG.out.on hBc)).mono ?_; rintro e w6 ⟨rfl, hb6⟩; replace hBc := hBc.next hb6; replace x0 := x0.below hb6 x0.lt; obtain ⟨a0, a1, a2, a3⟩ := x0.two) | (go_at_call 27; have _m := w4; refine (image_c _ HCF.out (HT.out.on hBc) HF.out (HG.out.on hBc)).mono ?_; rintro e w5 ⟨rfl, hb5⟩; replace hBc := hBc.next hb5; replace x0 := x0.below hb5 x0.lt; obtain ⟨a0, a1, a2, a3⟩ := x0.two) | (go_at_call 27; refine (image_c (a := p) _ (HCP.out _ hpp.out.symm) (HT.out.on hBc) HF.out hpg.out).mono ?_; rintro e w4 ⟨rfl, hb4⟩; replace hBc := hBc.next hb4; replace x0 := x0.below hb4 x0.lt; obtain ⟨a0, a1, a2, a3⟩ := x0.two))
  all_goals go_ret
  · exact Ret.b (HB4.out (by rw [show bits .andNot .u64 (v : Int) (X : Int) = 0 from by assumption]; rfl)) hBc
  · exact Ret.b rfl hBc
theorem reach_yes (a : RA) (f o : Nat) (w : World) (hT : Tab w) (hg : a.good w) (hf : f < 18446744073709551616) (ho : o < 18446744073709551616) :
    Calls Tryd.prog 8 #[a.val, .int .u64 f, .int .u64 o] w (Ret w (.bool true)) := by
  by_cases hok : a.pr.ok = true
  · exact reach_ok a f o w hT hg hf ho hok
  · exact reach_bad a f o w hT hg hf hok
end Go.Proofs.YtigdecmfieaacaaDoor
