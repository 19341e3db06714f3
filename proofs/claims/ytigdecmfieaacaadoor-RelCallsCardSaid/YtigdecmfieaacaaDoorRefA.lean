/-
  The document's answers for layer 1: None, Self.
-/
import Derived.Test.YtigdecmfieaacaaDoorRelF
namespace Go.Proofs.YtigdecmfieaacaaDoor
open Go Go.RowKit

theorem rnone_ok (n : Nat) (w : World) (h : n ≤ 64) :
    Calls Tryd.prog 18 #[.int .i64 n] w (RetQ w fun v w' => ∃ g, v = .agg #[.int .i64 n, .slice (some ⟨g, 0, none⟩) n n] ∧ w.heap.size ≤ g ∧ RowT w' g 37 ((List.replicate n 0).map U)) := by
  have hmk := fun w => run_make_row' (P := Tryd.prog) 24 37 (.int .u64 0) 8 Tryd.underlying24 info37 rfl .i64 .i64 n (by omega) (by omega) w
  go_enter Tryd.func18, Tryd.ntmps18
  go_wp2
  refine post_rel rfl rfl rfl ((RowT.new w 26 [.int .i64 n, .slice (some ⟨w.heap.size + 1, 0, none⟩) n n]).alloc _) ⟨_, rfl, ⟨w.heap.size + 1, rfl, by omega, ?_⟩, below_two w _ _⟩
  have := RowT.made (w.alloc (.cells #[.int .i64 n, .slice (some ⟨w.heap.size + 1, 0, none⟩) n n] 26)) 37 (.int .u64 0) n
  rw [map_U_zeros]
  simpa only [World.size_alloc] using this
theorem rnone_bad (n : Int) (w : World) (h : ¬ (0 ≤ n ∧ n ≤ 64)) :
    Calls Tryd.prog 18 #[.int .i64 n] w (Ret w zeroR) := by
  unfold zeroR
  by_cases h0 : n < 0
  · go_enter Tryd.func18, Tryd.ntmps18
    go_wp2
    exact post_rel rfl rfl rfl (RowT.new w 26 [.int .i64 0, .slice none 0 0]) ⟨rfl, below_alloc w _⟩
  · have h1 : 64 < n := by omega
    go_enter Tryd.func18, Tryd.ntmps18
    go_wp2
    exact post_rel rfl rfl rfl (RowT.new w 26 [.int .i64 0, .slice none 0 0]) ⟨rfl, below_alloc w _⟩
theorem rself_ok (n : Nat) (w : World) (h : n ≤ 64) :
    Calls Tryd.prog 19 #[.int .i64 n] w (RetQ w fun v w' => ∃ g, v = .agg #[.int .i64 n, .slice (some ⟨g, 0, none⟩) n n] ∧ w.heap.size ≤ g ∧ RowT w' g 37 (((List.range n).map (2 ^ ·)).map U)) := by
  go_enter Tryd.func19, Tryd.ntmps19
  go_wp2_with (go_at_call 18; refine (rnone_ok n _ h).mono ?_; rintro e w1 ⟨v, rfl, ⟨g, rfl, hg, hrow⟩, hb⟩; have hz := size_one hb)
  have hbox0 : RowT w1 w.heap.size 26 [.int .i64 0, .slice none 0 0] := (RowT.new w 26 [.int .i64 0, .slice none 0 0]).below hb (by simp)
  have hB : Below w.heap.size w w1 := (below_alloc w _).trans (hb.mono (by simp))
  simp only [World.size_alloc] at hg
  have hbox := RowT.new w1 26 [.int .i64 n, .slice (some ⟨g, 0, none⟩) n n]
  have hgl := hrow.lt
  go_loopw [4] (fun i wr => ∃ k : Nat, i = .int .i64 k ∧ k ≤ n ∧ RowT wr g 37 ((upTo n k (2 ^ ·)).map U) ∧ RowT wr w1.heap.size 26 [.int .i64 n, .slice (some ⟨g, 0, none⟩) n n] ∧ RowT wr w.heap.size 26 [.int .i64 0, .slice none 0 0] ∧ Below w.heap.size w wr) (fun i _ => n - (intOf i).toNat)
  case atStart => exact ⟨0, rfl, by omega, by rw [upTo_zero]; exact hrow.alloc _, hbox, hbox0.alloc _, hB.trans ((below_alloc _ _).mono (by omega))⟩
  case round =>
    obtain ⟨k, rfl, hk, hr, hbx, hb0, hBr⟩ := hrel
    clear hrow hbox hbox0 hb hB
    obtain ⟨hc0, hc1, hf0, hf1⟩ := hbx.two
    obtain ⟨hd0, hd1, he0, he1⟩ := hb0.two
    by_cases hlt : k < n
    · have hck : wr.cell? ⟨g, k, none⟩ = some (.int .u64 ((0 : Nat) : Int)) := by
        rw [hr.cell k, List.getElem?_map, upTo_get _ hlt, if_neg (by omega)]; rfl
      have hfk := hr.frozen k
      go_wp2
      go_roundw
      case rel =>
        refine ⟨k + 1, by go_num, by omega, ?_, (hbx.far (by simp; omega) _), (hb0.far (by simp; omega) _), (hBr.setCell (by simp; omega) _)⟩
        have := hr.set_ k (U (2 ^ k))
        rw [← List.map_set, upTo_set] at this
        rw [pow_cast, wrap_u64_nat _ (pow_lt_64 k (by omega))]
        exact this
      case measure => simp [intOf]; omega
    · obtain rfl : k = n := by omega
      go_wp2
      rw [upTo_full] at hr
      exact post_rel rfl rfl rfl ((hb0.set_ 0 _).set_ 1 _) ⟨_, rfl, ⟨g, rfl, by omega, (hr.far (by simp; omega) _).far (by simp; omega) _⟩, (hBr.setCell (by simp) _).setCell (by simp) _⟩
theorem rself_bad (n : Int) (w : World) (h : ¬ (0 ≤ n ∧ n ≤ 64)) : Calls Tryd.prog 19 #[.int .i64 n] w (Ret w zeroR) := by
  have HH := Lib.hid h
  clear h
  have hN := fun w => rnone_bad n w HH.out
  unfold zeroR at hN ⊢
  have HN := Lib.hid hN
  clear hN
  go_enter Tryd.func19, Tryd.ntmps19
  go_wp2_with (go_at_call 18; refine (HN.out _).mono ?_; rintro e w1 ⟨rfl, hb⟩; have hz := size_one hb)
  have x0 := ((RowT.new w 26 [.int .i64 0, .slice none 0 0]).below hb (by simp)).alloc (.cells #[.int .i64 0, .slice none 0 0] 26)
  have x1 := RowT.new w1 26 [.int .i64 0, .slice none 0 0]
  have hB : Below w.heap.size w w1 := (below_alloc w _).trans (hb.mono (by simp))
  have hB' := hB.alloc hB.size (.cells #[.int .i64 0, .slice none 0 0] 26)
  go_loopw [4] (fun i wr => i = .int .i64 0 ∧ RowT wr w1.heap.size 26 [.int .i64 0, .slice none 0 0] ∧ RowT wr w.heap.size 26 [.int .i64 0, .slice none 0 0] ∧ Below w.heap.size w wr) (fun i _ => 0)
  case atStart => exact ⟨rfl, x1, x0, hB'⟩
  case round =>
    obtain ⟨rfl, d1, d0, hBr⟩ := hrel
    clear x0 x1
    obtain ⟨a0, a1, a2, a3⟩ := d1.two
    obtain ⟨b0, b1, b2, b3⟩ := d0.two
    have hs := d1.lt
    go_wp2
    exact post_rel rfl rfl rfl ((d0.set_ 0 _).set_ 1 _) ⟨rfl, (hBr.setCell (by simp) _).setCell (by simp) _⟩
end Go.Proofs.YtigdecmfieaacaaDoor
