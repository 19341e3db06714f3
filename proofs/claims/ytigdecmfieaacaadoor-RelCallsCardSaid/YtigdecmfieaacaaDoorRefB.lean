/-
  The document's answers for layer 1: Of.
-/
import Derived.Test.YtigdecmfieaacaaDoorRefA
import Derived.Test.YtigdecmfieaacaaDoorOf
namespace Go.Proofs.YtigdecmfieaacaaDoor
open Go Go.RowKit

set_option maxHeartbeats 2000000 in
theorem rof_ok (n : Nat) (A : Option Addr) (cap : Nat) (l : List (Int × Int)) (w : World) (h : n ≤ 64) (hl : l.length ≤ 5000) (hr : Reads w w.heap.size 2 A l.length (prs l)) :
    Calls Tryd.prog 17 #[.int .i64 n, .slice A l.length cap] w (RetQ w fun v w' => ∃ g, v = .agg #[.int .i64 n, .slice (some ⟨g, 0, none⟩) n n] ∧ w.heap.size ≤ g ∧ RowT w' g 37 ((ofL n l).map U)) := by
  have HR := Lib.hid hr
  clear hr
  go_enter Tryd.func17, Tryd.ntmps17
  go_wp2_with (go_at_call 18; refine (rnone_ok n _ h).mono ?_; rintro e w1 ⟨v, rfl, ⟨g, rfl, hg, hrow⟩, hb⟩; have hz := size_one hb)
  have x0 := ((RowT.new w 26 [.int .i64 0, .slice none 0 0]).below hb (by simp)).alloc (.cells #[.int .i64 n, .slice (some ⟨g, 0, none⟩) n n] 26)
  have x1 := RowT.new w1 26 [.int .i64 n, .slice (some ⟨g, 0, none⟩) n n]
  have hB : Below w.heap.size w w1 := (below_alloc w _).trans (hb.mono (by simp))
  simp only [World.size_alloc] at hg
  have hgl := hrow.lt
  have hrow' := hrow.alloc (.cells #[.int .i64 n, .slice (some ⟨g, 0, none⟩) n n] 26)
  have hB' := hB.alloc hB.size (.cells #[.int .i64 n, .slice (some ⟨g, 0, none⟩) n n] 26)
  clear hrow hB hb
  go_loopw [6] (fun i wr => ∃ k : Nat, i = .int .i64 k ∧ k ≤ l.length ∧ RowT wr g 37 ((ofL n (l.take k)).map U) ∧ RowT wr w1.heap.size 26 [.int .i64 n, .slice (some ⟨g, 0, none⟩) n n] ∧ RowT wr w.heap.size 26 [.int .i64 0, .slice none 0 0] ∧ Below w.heap.size w wr) (fun i _ => l.length - (intOf i).toNat)
  case atStart => exact ⟨0, rfl, by omega, hrow', x1, x0, hB'⟩
  case round =>
    obtain ⟨k, rfl, hk, hro, d1, d0, hBr⟩ := hrel
    clear x0 x1 hrow' hB'
    by_cases hlt : k < l.length
    · obtain ⟨ad, p, rfl, hbk, hp, hc0, hc1⟩ := (HR.out.below hBr).p hlt
      have d1l := d1.lt
      have hgl2 := hro.lt
      obtain ⟨a0, a1, a2, a3⟩ := d1.two
      have HP := Lib.hid hp
      clear hp
      by_cases h1 : 0 ≤ p.1 ∧ p.1 < n
      · by_cases h2 : 0 ≤ p.2 ∧ p.2 < n
        · obtain ⟨i, hi⟩ : ∃ i : Nat, p.1 = i := ⟨p.1.toNat, by omega⟩
          obtain ⟨j, hj⟩ : ∃ j : Nat, p.2 = j := ⟨p.2.toNat, by omega⟩
          have HPI := Lib.hid hi
          have HPJ := Lib.hid hj
          rw [hi] at hc0 h1
          rw [hj] at hc1 h2
          have hi' : i < n := by omega
          have hj' : j < n := by omega
          obtain ⟨x, hx⟩ : ∃ x, (ofL n (l.take k))[i]? = some x := ⟨_, List.getElem?_eq_getElem (by rw [ofL_length]; exact hi')⟩
          have hcx := hro.cell i
          rw [List.getElem?_map, hx] at hcx
          replace hcx : wr.cell? ⟨g, i, none⟩ = some (.int .u64 (x : Int)) := hcx
          have hfx := hro.frozen i
          have HX := Lib.hid hx
          clear hi hj hx
          go_wp2
          go_region
          all_goals go_wp2
          all_goals go_region
          all_goals
            go_wp2
            go_roundw
            case rel =>
              have hne1 := hro.lt
              refine ⟨k + 1, by go_num, by omega, ?_, d1.drew.drew.far (by simp; omega) _, d0.drew.drew.far (by simp; omega) _, hBr.drew.drew.setCell (by simp; omega) _⟩
              have := hro.drew.drew.set_ i (U (x ||| 2 ^ j))
              rw [← List.map_set] at this
              have e2 : addP n (ofL n (l.take k)) p = (ofL n (l.take k)).set i (x ||| 2 ^ j) := by
                rw [addP, if_pos (by simp only [inP, HPI.out, HPJ.out, Bool.and_eq_true, decide_eq_true_eq]; omega), HPI.out, HPJ.out, Int.toNat_natCast, Int.toNat_natCast, List.getD_eq_getElem?_getD, HX.out]; rfl
              rw [ofL_succ n l k p HP.out, e2]
              have hx := ofL_lt n (l.take k) x (List.mem_of_getElem? HX.out)
              have := pow_le_64 n h
              rw [pow_cast, wrap_u64_nat _ (pow_lt_64 j (by omega)), u64_or_nat x _ (by omega) (pow_lt_64 j (by omega))]
              assumption
            case measure => simp [intOf]; omega
        · by_cases h3 : 0 ≤ p.2
          · have h4 : ¬ p.2 < n := fun h => h2 ⟨h3, h⟩
            go_wp2
            go_region
            all_goals
              go_wp2
              go_roundw
              case rel =>
                refine ⟨k + 1, by go_num, by omega, ?_, d1.drew, d0.drew, hBr.drew⟩
                rw [ofL_succ n l k p HP.out, addP, if_neg (by simp only [inP, Bool.and_eq_true, decide_eq_true_eq]; omega)]
                exact hro.drew
              case measure => simp [intOf]; omega
          · go_wp2
            go_region
            all_goals
              go_wp2
              go_roundw
              case rel =>
                refine ⟨k + 1, by go_num, by omega, ?_, d1.drew, d0.drew, hBr.drew⟩
                rw [ofL_succ n l k p HP.out, addP, if_neg (by simp only [inP, Bool.and_eq_true, decide_eq_true_eq]; omega)]
                exact hro.drew
              case measure => simp [intOf]; omega
      · by_cases h3 : 0 ≤ p.1
        · have h4 : ¬ p.1 < n := fun h => h1 ⟨h3, h⟩
          go_wp2
          go_region
          all_goals
            go_wp2
            go_roundw
            case rel =>
              refine ⟨k + 1, by go_num, by omega, ?_, d1.drew, d0.drew, hBr.drew⟩
              rw [ofL_succ n l k p HP.out, addP, if_neg (by simp only [inP, Bool.and_eq_true, decide_eq_true_eq]; omega)]
              exact hro.drew
            case measure => simp [intOf]; omega
        · go_wp2
          go_region
          all_goals
            go_wp2
            go_roundw
            case rel =>
              refine ⟨k + 1, by go_num, by omega, ?_, d1.drew, d0.drew, hBr.drew⟩
              rw [ofL_succ n l k p HP.out, addP, if_neg (by simp only [inP, Bool.and_eq_true, decide_eq_true_eq]; omega)]
              exact hro.drew
            case measure => simp [intOf]; omega
    · obtain rfl : k = l.length := by omega
      rw [List.take_length] at hro
      obtain ⟨a0, a1, a2, a3⟩ := d1.two
      obtain ⟨b0, b1, b2, b3⟩ := d0.two
      have hs := d1.lt
      go_wp2
      exact post_rel4 rfl rfl rfl ((d0.set_ 0 _).set_ 1 _) ⟨_, rfl, ⟨g, rfl, by omega, (hro.far (by simp; omega) _).far (by simp; omega) _⟩, (hBr.setCell (by simp) _).setCell (by simp) _⟩
end Go.Proofs.YtigdecmfieaacaaDoor
