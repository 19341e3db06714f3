/-
  Package rel: Self, Of, Has.
-/
import Derived.Test.YtigdecmfieaacaaDoorRelA
namespace Go.Proofs.YtigdecmfieaacaaDoor
open Go Go.RowKit

/-- A list whose first k places are told by f, the others 0. -/
def upTo (n k : Nat) (f : Nat → Nat) : List Nat := (List.range n).map fun i => if i < k then f i else 0
theorem upTo_zero (n : Nat) (f : Nat → Nat) : upTo n 0 f = List.replicate n 0 := by
  apply List.ext_getElem <;> simp [upTo]
theorem upTo_full (n : Nat) (f : Nat → Nat) : upTo n n f = (List.range n).map f := by
  apply List.ext_getElem
  · simp [upTo]
  · intro i h1 h2
    simp [upTo] at h1 ⊢
    omega
theorem upTo_set (n k : Nat) (f : Nat → Nat) : (upTo n k f).set k (f k) = upTo n (k + 1) f := by
  apply List.ext_getElem
  · simp [upTo]
  · intro i h1 h2
    simp only [List.getElem_set, upTo, List.getElem_map, List.getElem_range]
    by_cases h : k = i
    · subst h; simp
    · rw [if_neg h]
      by_cases hk : i < k
      · rw [if_pos hk, if_pos (by omega)]
      · rw [if_neg hk, if_neg (by omega)]
theorem upTo_length (n k : Nat) (f : Nat → Nat) : (upTo n k f).length = n := by simp [upTo]
theorem upTo_get {n k i : Nat} (f : Nat → Nat) (h : i < n) : (upTo n k f)[i]? = some (if i < k then f i else 0) := by simp [upTo, h]

theorem self_ok (n : Nat) (w : World) (h : n ≤ 64) :
    Calls Tryd.prog 12 #[.int .i64 n] w (RetQ w fun v w' => ∃ g, v = .agg #[.int .i64 n, .slice (some ⟨g, 0, none⟩) n n] ∧ w.heap.size ≤ g ∧ RowT w' g 37 (((List.range n).map (2 ^ ·)).map U)) := by
  go_enter Tryd.func12, Tryd.ntmps12
  go_wp2_with (go_at_call 13; refine (none_ok n _ h).mono ?_; rintro e w1 ⟨v, rfl, ⟨g, rfl, hg, hrow⟩, hb⟩; obtain ⟨hc, hf⟩ := bcell hb; have hz : w.heap.size < w1.heap.size := by have := hb.size; simp only [World.size_alloc] at this; omega)
  have hbox0 : RowT w1 w.heap.size 26 [.int .i64 0, .slice none 0 0] := (RowT.new w 26 [.int .i64 0, .slice none 0 0]).below hb (by simp)
  have hB : Below w.heap.size w w1 := (below_alloc w _).trans (hb.mono (by simp))
  simp only [World.size_alloc] at hg
  have hbox := RowT.new w1 26 [.int .i64 n, .slice (some ⟨g, 0, none⟩) n n]
  have hgl := hrow.lt
  go_loopw [10] (fun i wr => ∃ k : Nat, i = .int .i64 k ∧ k ≤ n ∧ RowT wr g 37 ((upTo n k (2 ^ ·)).map U) ∧ RowT wr w1.heap.size 26 [.int .i64 n, .slice (some ⟨g, 0, none⟩) n n] ∧ RowT wr w.heap.size 26 [.int .i64 0, .slice none 0 0] ∧ Below w.heap.size w wr) (fun i _ => n - (intOf i).toNat)
  case atStart => exact ⟨0, rfl, by omega, by rw [upTo_zero]; exact hrow.alloc _, hbox, hbox0.alloc _, hB.trans ((below_alloc _ _).mono (by omega))⟩
  case round =>
    obtain ⟨k, rfl, hk, hr, hbx, hb0, hBr⟩ := hrel
    clear hrow hbox hbox0 hc hf hb hB
    obtain ⟨hc0, hc1, hf0, hf1⟩ := hbx.two
    obtain ⟨hd0, hd1, he0, he1⟩ := hb0.two
    by_cases hlt : k < n
    · have hck : wr.cell? ⟨g, k, none⟩ = some (.int .u64 ((0 : Nat) : Int)) := by
        rw [hr.cell k, List.getElem?_map, upTo_get _ hlt, if_neg (by omega)]; rfl
      have hfk := hr.frozen k
      go_wp2
      go_region
      go_wp2
      go_roundw
      case rel =>
        refine ⟨k + 1, by go_num, by omega, ?_, (hbx.drew.far (by simp; omega) _), (hb0.drew.far (by simp; omega) _), (hBr.drew.setCell (by simp; omega) _)⟩
        have := hr.drew.set_ k (U (2 ^ k))
        rw [← List.map_set, upTo_set] at this
        rw [pow_cast, wrap_u64_nat _ (pow_lt_64 k (by omega))]
        exact this
      case measure => simp [intOf]; omega
    · obtain rfl : k = n := by omega
      go_wp2
      rw [upTo_full] at hr
      exact post_rel rfl rfl rfl ((hb0.set_ 0 _).set_ 1 _) ⟨_, rfl, ⟨g, rfl, by omega, (hr.far (by simp; omega) _).far (by simp; omega) _⟩, (hBr.setCell (by simp) _).setCell (by simp) _⟩
end Go.Proofs.YtigdecmfieaacaaDoor
