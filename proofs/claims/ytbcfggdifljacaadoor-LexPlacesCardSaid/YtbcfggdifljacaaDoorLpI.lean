/-
  fault, lives; LexNames and LexReads answer true.
-/
import Derived.Test.YtbcfggdifljacaaDoorLpH
namespace Go.Proofs.YtbcfggdifljacaaDoor
open Go Go.RowKit

/-- What fault answers. -/
def faultB (l : List UInt8) (a b : Int) : Bool := match lexL 0 l with
  | .inl p => decide ((4 : Int) = a) && decide (((p : Nat) : Int) = b)
  | .inr _ => false
set_option maxRecDepth 100000 in
set_option maxHeartbeats 4000000 in
theorem law_fault (l : List UInt8) (fa fb : Int) (hlen : l.length ≤ 65536) (w0 : World) (hE : ErrOk w0) : Calls Tryd.prog 10 #[Str l, .agg #[.int .i64 fa, .int .i64 fb]] w0 (Ret w0 (.bool (faultB l fa fb))) := by
  refine calls_K (args := [Str l, .agg #[.int .i64 fa, .int .i64 fb]]) (n := 20) (env := [(0, Str l), (1, .agg #[.int .i64 fa, .int .i64 fb])]) Tryd.func10 rfl rfl rfl ⟨rfl, rfl, trivial⟩ fun a w hK hM => ?_
  refine wp_seq ?_
  refine region_go (lst := [0, 1]) (by kernel_rfl) ?_
  refine stepAlloc hK hM 3 24 [.int .i64 fa, .int .i64 fb] (fun b => .pointer (some ⟨b, 0, none⟩)) (by kernel_rfl) (by kernel_rfl) fun b1 a w hK hM => ?_
  refine stepP hK 4 (.bool false) (by kernel_rfl) (by kernel_rfl) fun a hK => ?_
  refine region_done hK [(4, .bool false), (3, .pointer (some ⟨b1, 0, none⟩)), (0, Str l), (1, .agg #[.int .i64 fa, .int .i64 fb])] ⟨rfl, rfl, rfl, rfl, trivial⟩ fun a hK => ?_
  refine wp_seq ?_
  refine region_go (lst := [0, 1, 2, 3, 4, 5, 6, 7]) (by kernel_rfl) ?_
  refine stepM hK 8 0 (by kernel_rfl) (.inl rfl) rfl fun a hK => ?_
  rcases hx2 : lexL 0 l with p2 | ts2
  · refine stepRet hK hM 9 #[Str l] (.tuple #[.slice none 0 0, .agg #[.int .i64 4, .int .i64 ((p2 : Nat) : Int)]]) (by kernel_rfl) (run_callE en_lex_All rfl rfl (by kernel_rfl)) (All_bad (lex_All l _ (hE.on hM.below) (by first | omega | decide | (simp; omega))) (by first | omega | (simp; omega)) hx2) fun a w hK hM => ?_
    refine stepM hK 7 9 (by kernel_rfl) (.inl rfl) rfl fun a hK => ?_
    refine stepP hK 10 (.slice none 0 0) (by kernel_rfl) (by kernel_rfl) fun a hK => ?_
    refine stepP hK 11 (.agg #[.int .i64 4, .int .i64 ((p2 : Nat) : Int)]) (by kernel_rfl) (by kernel_rfl) fun a hK => ?_
    refine stepAlloc hK hM 6 24 [.int .i64 0, .int .i64 0] (fun b => .pointer (some ⟨b, 0, none⟩)) (by kernel_rfl) (by kernel_rfl) fun b3 a w hK hM => ?_
    refine stepM hK 5 10 (by kernel_rfl) (.inr rfl) rfl fun a hK => ?_
    refine stepStore hK hM 0 [.int .i64 4, .int .i64 ((p2 : Nat) : Int)] (by kernel_rfl) rfl rfl rfl rfl (by kernel_rfl) fun w hM => ?_
    replace hM := hM.to [.row b3 24 [.int .i64 4, .int .i64 ((p2 : Nat) : Int)], .row b1 24 [.int .i64 fa, .int .i64 fb]] (by kernel_rfl)
    refine region_done hK [(5, .slice none 0 0), (6, .pointer (some ⟨b3, 0, none⟩)), (4, .bool false), (3, .pointer (some ⟨b1, 0, none⟩)), (0, Str l), (1, .agg #[.int .i64 fa, .int .i64 fb])] ⟨rfl, rfl, rfl, rfl, rfl, rfl, trivial⟩ fun a hK => ?_
    refine wp_seq ?_
    refine region_go (lst := [0, 1, 2, 3, 4, 5, 6, 7, 8]) (by kernel_rfl) ?_
    refine stepLoad hK 12 (.agg #[.int .i64 4, .int .i64 ((p2 : Nat) : Int)]) (by kernel_rfl) rfl rfl ((hM.row 0 rfl).cells 0 2) (by kernel_rfl) fun a hK => ?_
    refine stepLoad hK 13 (.agg #[.int .i64 fa, .int .i64 fb]) (by kernel_rfl) rfl rfl ((hM.row 1 rfl).cells 0 2) (by kernel_rfl) fun a hK => ?_
    rcases Bool.eq_false_or_eq_true (decide ((4 : Int) = fa) && decide ((((p2 : Nat) : Int) : Int) = fb)) with h4 | h4
    · refine stepP hK 14 (.bool true) (by kernel_rfl) (okBool (b := (decide ((4 : Int) = fa) && decide ((((p2 : Nat) : Int) : Int) = fb))) (run_eqlFlt rfl rfl rfl) h4) fun a hK => ?_
      refine stepM hK 15 14 (by kernel_rfl) (.inl rfl) rfl fun a hK => ?_
      refine stepM hK 16 5 (by kernel_rfl) (.inl rfl) rfl fun a hK => ?_
      refine stepP hK 17 (.int .i64 0) (by kernel_rfl) (by kernel_rfl) fun a hK => ?_
      refine stepP hK 18 (.bool true) (by kernel_rfl) (by kernel_rfl) fun a hK => ?_
      refine stepP hK 19 (.bool true) (by kernel_rfl) (by kernel_rfl) fun a hK => ?_
      refine stepM hK 4 19 (by kernel_rfl) (.inr rfl) rfl fun a hK => ?_
      refine region_done hK [(4, .bool true), (5, .slice none 0 0), (6, .pointer (some ⟨b3, 0, none⟩)), (3, .pointer (some ⟨b1, 0, none⟩)), (0, Str l), (1, .agg #[.int .i64 fa, .int .i64 fb])] ⟨rfl, rfl, rfl, rfl, rfl, rfl, trivial⟩ fun a hK => ?_
      refine wp_ret ?_
      exact ret_t hK rfl (u := (.bool true)) rfl (⟨congrArg (fun x => Ending.returned (Value.bool x)) (by unfold faultB; rw [hx2]; simp only; rw [h4]), hM.below⟩)
    · refine stepP hK 14 (.bool false) (by kernel_rfl) (okBool (b := (decide ((4 : Int) = fa) && decide ((((p2 : Nat) : Int) : Int) = fb))) (run_eqlFlt rfl rfl rfl) h4) fun a hK => ?_
      refine stepM hK 15 14 (by kernel_rfl) (.inl rfl) rfl fun a hK => ?_
      refine stepN hK 16 (by kernel_rfl) fun a hK => ?_
      refine stepN hK 17 (by kernel_rfl) fun a hK => ?_
      refine stepN hK 18 (by kernel_rfl) fun a hK => ?_
      refine stepP hK 19 (.bool false) (by kernel_rfl) (by kernel_rfl) fun a hK => ?_
      refine stepM hK 4 19 (by kernel_rfl) (.inr rfl) rfl fun a hK => ?_
      refine region_done hK [(4, .bool false), (5, .slice none 0 0), (6, .pointer (some ⟨b3, 0, none⟩)), (3, .pointer (some ⟨b1, 0, none⟩)), (0, Str l), (1, .agg #[.int .i64 fa, .int .i64 fb])] ⟨rfl, rfl, rfl, rfl, rfl, rfl, trivial⟩ fun a hK => ?_
      refine wp_ret ?_
      exact ret_t hK rfl (u := (.bool false)) rfl (⟨congrArg (fun x => Ending.returned (Value.bool x)) (by unfold faultB; rw [hx2]; simp only; rw [h4]), hM.below⟩)
  · refine stepCall hK hM 9 #[Str l] (by kernel_rfl) (run_callE en_lex_All rfl rfl (by kernel_rfl)) (All_good (lex_All l _ (hE.on hM.below) (by first | omega | decide | (simp; omega))) (by first | omega | (simp; omega)) hx2) ?_
    rintro ⟨g5, k6⟩ a w - hK hM
    refine stepM hK 7 9 (by kernel_rfl) (.inl rfl) rfl fun a hK => ?_
    refine stepP hK 10 (.slice (some ⟨g5, 0, none⟩) (ts2 ++ [endT l]).length k6) (by kernel_rfl) (by kernel_rfl) fun a hK => ?_
    refine stepP hK 11 (.agg #[.int .i64 0, .int .i64 0]) (by kernel_rfl) (by kernel_rfl) fun a hK => ?_
    refine stepAlloc hK hM 6 24 [.int .i64 0, .int .i64 0] (fun b => .pointer (some ⟨b, 0, none⟩)) (by kernel_rfl) (by kernel_rfl) fun b8 a w hK hM => ?_
    refine stepM hK 5 10 (by kernel_rfl) (.inr rfl) rfl fun a hK => ?_
    refine stepStore hK hM 0 [.int .i64 0, .int .i64 0] (by kernel_rfl) rfl rfl rfl rfl (by kernel_rfl) fun w hM => ?_
    replace hM := hM.to [.row b8 24 [.int .i64 0, .int .i64 0], .own 35 4 (.slice (some ⟨g5, 0, none⟩) (ts2 ++ [endT l]).length k6) (ts2 ++ [endT l]).length (cellsT (ts2 ++ [endT l])), .row b1 24 [.int .i64 fa, .int .i64 fb]] (by kernel_rfl)
    refine region_done hK [(5, .slice (some ⟨g5, 0, none⟩) (ts2 ++ [endT l]).length k6), (6, .pointer (some ⟨b8, 0, none⟩)), (4, .bool false), (3, .pointer (some ⟨b1, 0, none⟩)), (0, Str l), (1, .agg #[.int .i64 fa, .int .i64 fb])] ⟨rfl, rfl, rfl, rfl, rfl, rfl, trivial⟩ fun a hK => ?_
    refine wp_seq ?_
    refine region_go (lst := [0, 1, 2, 3, 4, 5, 6, 7, 8]) (by kernel_rfl) ?_
    refine stepLoad hK 12 (.agg #[.int .i64 0, .int .i64 0]) (by kernel_rfl) rfl rfl ((hM.row 0 rfl).cells 0 2) (by kernel_rfl) fun a hK => ?_
    refine stepLoad hK 13 (.agg #[.int .i64 fa, .int .i64 fb]) (by kernel_rfl) rfl rfl ((hM.row 2 rfl).cells 0 2) (by kernel_rfl) fun a hK => ?_
    rcases Bool.eq_false_or_eq_true (decide ((0 : Int) = fa) && decide ((0 : Int) = fb)) with h9 | h9
    · refine stepP hK 14 (.bool true) (by kernel_rfl) (okBool (b := (decide ((0 : Int) = fa) && decide ((0 : Int) = fb))) (run_eqlFlt rfl rfl rfl) h9) fun a hK => ?_
      refine stepM hK 15 14 (by kernel_rfl) (.inl rfl) rfl fun a hK => ?_
      refine stepM hK 16 5 (by kernel_rfl) (.inl rfl) rfl fun a hK => ?_
      refine stepP hK 17 (.int .i64 (((ts2 ++ [endT l]).length : Nat) : Int)) (by kernel_rfl) (by kernel_rfl) fun a hK => ?_
      refine stepP hK 18 (.bool false) (by kernel_rfl) (okBool (b := (decide (((((ts2 ++ [endT l]).length : Nat) : Int) : Int) = 0))) (by kernel_rfl) (decide_eq_false (by simp; omega))) fun a hK => ?_
      refine stepP hK 19 (.bool false) (by kernel_rfl) (by kernel_rfl) fun a hK => ?_
      refine stepM hK 4 19 (by kernel_rfl) (.inr rfl) rfl fun a hK => ?_
      refine region_done hK [(4, .bool false), (5, .slice (some ⟨g5, 0, none⟩) (ts2 ++ [endT l]).length k6), (6, .pointer (some ⟨b8, 0, none⟩)), (3, .pointer (some ⟨b1, 0, none⟩)), (0, Str l), (1, .agg #[.int .i64 fa, .int .i64 fb])] ⟨rfl, rfl, rfl, rfl, rfl, rfl, trivial⟩ fun a hK => ?_
      refine wp_ret ?_
      exact ret_t hK rfl (u := (.bool false)) rfl (⟨congrArg (fun x => Ending.returned (Value.bool x)) (by unfold faultB; rw [hx2]), hM.below⟩)
    · refine stepP hK 14 (.bool false) (by kernel_rfl) (okBool (b := (decide ((0 : Int) = fa) && decide ((0 : Int) = fb))) (run_eqlFlt rfl rfl rfl) h9) fun a hK => ?_
      refine stepM hK 15 14 (by kernel_rfl) (.inl rfl) rfl fun a hK => ?_
      refine stepN hK 16 (by kernel_rfl) fun a hK => ?_
      refine stepN hK 17 (by kernel_rfl) fun a hK => ?_
      refine stepN hK 18 (by kernel_rfl) fun a hK => ?_
      refine stepP hK 19 (.bool false) (by kernel_rfl) (by kernel_rfl) fun a hK => ?_
      refine stepM hK 4 19 (by kernel_rfl) (.inr rfl) rfl fun a hK => ?_
      refine region_done hK [(4, .bool false), (5, .slice (some ⟨g5, 0, none⟩) (ts2 ++ [endT l]).length k6), (6, .pointer (some ⟨b8, 0, none⟩)), (3, .pointer (some ⟨b1, 0, none⟩)), (0, Str l), (1, .agg #[.int .i64 fa, .int .i64 fb])] ⟨rfl, rfl, rfl, rfl, rfl, rfl, trivial⟩ fun a hK => ?_
      refine wp_ret ?_
      exact ret_t hK rfl (u := (.bool false)) rfl (⟨congrArg (fun x => Ending.returned (Value.bool x)) (by unfold faultB; rw [hx2]), hM.below⟩)
theorem en_cantileverlaw02_fault : Enters Tryd.prog 10 := enters_of Tryd.func10 (by kernel_rfl) rfl
set_option maxRecDepth 100000 in
set_option maxHeartbeats 4000000 in
theorem law_lives  (w0 : World) (hE : ErrOk w0) : Calls Tryd.prog 9 #[] w0 (Ret w0 (.bool true)) := by
  refine calls_K (args := []) (n := 59) (env := []) Tryd.func9 rfl rfl rfl trivial fun a w hK hM => ?_
  refine wp_seq ?_
  refine region_go (lst := [0]) (by kernel_rfl) ?_
  refine stepP hK 0 (.bool false) (by kernel_rfl) (by kernel_rfl) fun a hK => ?_
  refine region_done hK [(0, .bool false)] ⟨rfl, trivial⟩ fun a hK => ?_
  refine wp_seq ?_
  refine region_go (lst := [0, 1, 2, 3, 4, 5, 6]) (by kernel_rfl) ?_
  refine stepCall hK hM 6 #[Str [114, 49, 61, 108, 111, 97, 100, 40, 120, 44, 97, 99, 113, 41, 59]] (by kernel_rfl) (run_callE en_lex_All rfl rfl (by kernel_rfl)) (All_good (lex_All [114, 49, 61, 108, 111, 97, 100, 40, 120, 44, 97, 99, 113, 41, 59] _ (hE.on hM.below) (by first | omega | decide | (simp; omega))) (by decide) (ts := [((1, [114, 49], 0), 0), ((4, [61], 0), 2), ((2, [108, 111, 97, 100], 0), 3), ((4, [40], 0), 7), ((1, [120], 0), 8), ((4, [44], 0), 9), ((2, [97, 99, 113], 0), 10), ((4, [41], 0), 13), ((4, [59], 0), 14)]) (by kernel_rfl)) ?_
  rintro ⟨g1, k2⟩ a w - hK hM
  refine stepM hK 5 6 (by kernel_rfl) (.inl rfl) rfl fun a hK => ?_
  refine stepP hK 7 (.slice (some ⟨g1, 0, none⟩) (([((1, [114, 49], 0), 0), ((4, [61], 0), 2), ((2, [108, 111, 97, 100], 0), 3), ((4, [40], 0), 7), ((1, [120], 0), 8), ((4, [44], 0), 9), ((2, [97, 99, 113], 0), 10), ((4, [41], 0), 13), ((4, [59], 0), 14)] : List TkAt) ++ [endT [114, 49, 61, 108, 111, 97, 100, 40, 120, 44, 97, 99, 113, 41, 59]]).length k2) (by kernel_rfl) (by kernel_rfl) fun a hK => ?_
  refine stepP hK 8 (.agg #[.int .i64 0, .int .i64 0]) (by kernel_rfl) (by kernel_rfl) fun a hK => ?_
  refine stepAlloc hK hM 2 24 [.int .i64 0, .int .i64 0] (fun b => .pointer (some ⟨b, 0, none⟩)) (by kernel_rfl) (by kernel_rfl) fun b4 a w hK hM => ?_
  refine stepM hK 1 7 (by kernel_rfl) (.inr rfl) rfl fun a hK => ?_
  refine stepStore hK hM 0 [.int .i64 0, .int .i64 0] (by kernel_rfl) rfl rfl rfl rfl (by kernel_rfl) fun w hM => ?_
  replace hM := hM.to [.row b4 24 [.int .i64 0, .int .i64 0], .own 35 4 (.slice (some ⟨g1, 0, none⟩) (([((1, [114, 49], 0), 0), ((4, [61], 0), 2), ((2, [108, 111, 97, 100], 0), 3), ((4, [40], 0), 7), ((1, [120], 0), 8), ((4, [44], 0), 9), ((2, [97, 99, 113], 0), 10), ((4, [41], 0), 13), ((4, [59], 0), 14)] : List TkAt) ++ [endT [114, 49, 61, 108, 111, 97, 100, 40, 120, 44, 97, 99, 113, 41, 59]]).length k2) (([((1, [114, 49], 0), 0), ((4, [61], 0), 2), ((2, [108, 111, 97, 100], 0), 3), ((4, [40], 0), 7), ((1, [120], 0), 8), ((4, [44], 0), 9), ((2, [97, 99, 113], 0), 10), ((4, [41], 0), 13), ((4, [59], 0), 14)] : List TkAt) ++ [endT [114, 49, 61, 108, 111, 97, 100, 40, 120, 44, 97, 99, 113, 41, 59]]).length (cellsT (([((1, [114, 49], 0), 0), ((4, [61], 0), 2), ((2, [108, 111, 97, 100], 0), 3), ((4, [40], 0), 7), ((1, [120], 0), 8), ((4, [44], 0), 9), ((2, [97, 99, 113], 0), 10), ((4, [41], 0), 13), ((4, [59], 0), 14)] : List TkAt) ++ [endT [114, 49, 61, 108, 111, 97, 100, 40, 120, 44, 97, 99, 113, 41, 59]]))] (by kernel_rfl)
  refine region_done hK [(1, .slice (some ⟨g1, 0, none⟩) (([((1, [114, 49], 0), 0), ((4, [61], 0), 2), ((2, [108, 111, 97, 100], 0), 3), ((4, [40], 0), 7), ((1, [120], 0), 8), ((4, [44], 0), 9), ((2, [97, 99, 113], 0), 10), ((4, [41], 0), 13), ((4, [59], 0), 14)] : List TkAt) ++ [endT [114, 49, 61, 108, 111, 97, 100, 40, 120, 44, 97, 99, 113, 41, 59]]).length k2), (2, .pointer (some ⟨b4, 0, none⟩)), (0, .bool false)] ⟨rfl, rfl, rfl, trivial⟩ fun a hK => ?_
  refine wp_seq ?_
  refine region_go (lst := [0, 1, 2, 3, 4, 5, 6]) (by kernel_rfl) ?_
  refine stepCall hK hM 10 #[Str [97, 60, 61, 98, 32, 47, 47, 99]] (by kernel_rfl) (run_callE en_lex_All rfl rfl (by kernel_rfl)) (All_good (lex_All [97, 60, 61, 98, 32, 47, 47, 99] _ (hE.on hM.below) (by first | omega | decide | (simp; omega))) (by decide) (ts := [((1, [97], 0), 0), ((4, [60, 61], 0), 1), ((1, [98], 0), 3)]) (by kernel_rfl)) ?_
  rintro ⟨g5, k6⟩ a w - hK hM
  refine stepM hK 9 10 (by kernel_rfl) (.inl rfl) rfl fun a hK => ?_
  refine stepP hK 11 (.slice (some ⟨g5, 0, none⟩) (([((1, [97], 0), 0), ((4, [60, 61], 0), 1), ((1, [98], 0), 3)] : List TkAt) ++ [endT [97, 60, 61, 98, 32, 47, 47, 99]]).length k6) (by kernel_rfl) (by kernel_rfl) fun a hK => ?_
  refine stepP hK 12 (.agg #[.int .i64 0, .int .i64 0]) (by kernel_rfl) (by kernel_rfl) fun a hK => ?_
  refine stepAlloc hK hM 4 24 [.int .i64 0, .int .i64 0] (fun b => .pointer (some ⟨b, 0, none⟩)) (by kernel_rfl) (by kernel_rfl) fun b8 a w hK hM => ?_
  refine stepM hK 3 11 (by kernel_rfl) (.inr rfl) rfl fun a hK => ?_
  refine stepStore hK hM 0 [.int .i64 0, .int .i64 0] (by kernel_rfl) rfl rfl rfl rfl (by kernel_rfl) fun w hM => ?_
  replace hM := hM.to [.row b8 24 [.int .i64 0, .int .i64 0], .own 35 4 (.slice (some ⟨g5, 0, none⟩) (([((1, [97], 0), 0), ((4, [60, 61], 0), 1), ((1, [98], 0), 3)] : List TkAt) ++ [endT [97, 60, 61, 98, 32, 47, 47, 99]]).length k6) (([((1, [97], 0), 0), ((4, [60, 61], 0), 1), ((1, [98], 0), 3)] : List TkAt) ++ [endT [97, 60, 61, 98, 32, 47, 47, 99]]).length (cellsT (([((1, [97], 0), 0), ((4, [60, 61], 0), 1), ((1, [98], 0), 3)] : List TkAt) ++ [endT [97, 60, 61, 98, 32, 47, 47, 99]])), .row b4 24 [.int .i64 0, .int .i64 0], .own 35 4 (.slice (some ⟨g1, 0, none⟩) (([((1, [114, 49], 0), 0), ((4, [61], 0), 2), ((2, [108, 111, 97, 100], 0), 3), ((4, [40], 0), 7), ((1, [120], 0), 8), ((4, [44], 0), 9), ((2, [97, 99, 113], 0), 10), ((4, [41], 0), 13), ((4, [59], 0), 14)] : List TkAt) ++ [endT [114, 49, 61, 108, 111, 97, 100, 40, 120, 44, 97, 99, 113, 41, 59]]).length k2) (([((1, [114, 49], 0), 0), ((4, [61], 0), 2), ((2, [108, 111, 97, 100], 0), 3), ((4, [40], 0), 7), ((1, [120], 0), 8), ((4, [44], 0), 9), ((2, [97, 99, 113], 0), 10), ((4, [41], 0), 13), ((4, [59], 0), 14)] : List TkAt) ++ [endT [114, 49, 61, 108, 111, 97, 100, 40, 120, 44, 97, 99, 113, 41, 59]]).length (cellsT (([((1, [114, 49], 0), 0), ((4, [61], 0), 2), ((2, [108, 111, 97, 100], 0), 3), ((4, [40], 0), 7), ((1, [120], 0), 8), ((4, [44], 0), 9), ((2, [97, 99, 113], 0), 10), ((4, [41], 0), 13), ((4, [59], 0), 14)] : List TkAt) ++ [endT [114, 49, 61, 108, 111, 97, 100, 40, 120, 44, 97, 99, 113, 41, 59]]))] (by kernel_rfl)
  refine region_done hK [(3, .slice (some ⟨g5, 0, none⟩) (([((1, [97], 0), 0), ((4, [60, 61], 0), 1), ((1, [98], 0), 3)] : List TkAt) ++ [endT [97, 60, 61, 98, 32, 47, 47, 99]]).length k6), (4, .pointer (some ⟨b8, 0, none⟩)), (1, .slice (some ⟨g1, 0, none⟩) (([((1, [114, 49], 0), 0), ((4, [61], 0), 2), ((2, [108, 111, 97, 100], 0), 3), ((4, [40], 0), 7), ((1, [120], 0), 8), ((4, [44], 0), 9), ((2, [97, 99, 113], 0), 10), ((4, [41], 0), 13), ((4, [59], 0), 14)] : List TkAt) ++ [endT [114, 49, 61, 108, 111, 97, 100, 40, 120, 44, 97, 99, 113, 41, 59]]).length k2), (2, .pointer (some ⟨b4, 0, none⟩)), (0, .bool false)] ⟨rfl, rfl, rfl, rfl, rfl, trivial⟩ fun a hK => ?_
  refine wp_seq ?_
  refine region_go (lst := [0, 1, 2, 3, 4, 5, 6, 7, 8, 9, 10, 11, 12, 13, 14, 15, 16, 17, 18, 19, 20, 21, 22, 23, 24, 25, 26, 27, 28, 29, 30, 31, 32, 33, 34, 35, 36, 37, 38, 39, 40, 41, 42, 43, 44, 45, 46]) (by kernel_rfl) ?_
  refine stepLoad hK 13 (.agg #[.int .i64 0, .int .i64 0]) (by kernel_rfl) rfl rfl ((hM.row 2 rfl).cells 0 2) (by kernel_rfl) fun a hK => ?_
  refine stepP hK 14 (.agg #[.int .i64 0, .int .i64 0]) (by kernel_rfl) (by kernel_rfl) fun a hK => ?_
  refine stepP hK 15 (.bool true) (by kernel_rfl) (okBool (run_eqlFlt rfl rfl rfl) (by decide)) fun a hK => ?_
  refine stepM hK 16 15 (by kernel_rfl) (.inl rfl) rfl fun a hK => ?_
  refine stepM hK 17 1 (by kernel_rfl) (.inl rfl) rfl fun a hK => ?_
  refine stepP hK 18 (.int .i64 10) (by kernel_rfl) (by kernel_rfl) fun a hK => ?_
  refine stepP hK 19 (.bool true) (by kernel_rfl) (by kernel_rfl) fun a hK => ?_
  refine stepP hK 20 (.bool true) (by kernel_rfl) (by kernel_rfl) fun a hK => ?_
  refine stepM hK 21 20 (by kernel_rfl) (.inl rfl) rfl fun a hK => ?_
  refine stepM hK 22 1 (by kernel_rfl) (.inl rfl) rfl fun a hK => ?_
  refine stepP hK 23 (.pointer (some ⟨g1, 8, none⟩)) (by kernel_rfl) (run_ixG (k := 2) (n := (([((1, [114, 49], 0), 0), ((4, [61], 0), 2), ((2, [108, 111, 97, 100], 0), 3), ((4, [40], 0), 7), ((1, [120], 0), 8), ((4, [44], 0), 9), ((2, [97, 99, 113], 0), 10), ((4, [41], 0), 13), ((4, [59], 0), 14)] : List TkAt) ++ [endT [114, 49, 61, 108, 111, 97, 100, 40, 120, 44, 97, 99, 113, 41, 59]]).length) (s := 4) rfl rfl rfl Tryd.underlying29 (by kernel_rfl) (by decide)) fun a hK => ?_
  refine stepLoad hK 24 (.agg #[.int .i64 2, Str [108, 111, 97, 100], .int .i64 0, .int .i64 3]) (by kernel_rfl) rfl rfl ((hM.ownCells 3 rfl 8 4)) (by kernel_rfl) fun a hK => ?_
  refine stepP hK 25 (.agg #[.int .i64 2, Str [108, 111, 97, 100], .int .i64 0, .int .i64 3]) (by kernel_rfl) (by kernel_rfl) fun a hK => ?_
  refine stepP hK 26 (.bool true) (by kernel_rfl) (okBool (run_eqlTok rfl rfl rfl) (by decide)) fun a hK => ?_
  refine stepP hK 27 (.bool true) (by kernel_rfl) (by kernel_rfl) fun a hK => ?_
  refine stepM hK 28 27 (by kernel_rfl) (.inl rfl) rfl fun a hK => ?_
  refine stepM hK 29 1 (by kernel_rfl) (.inl rfl) rfl fun a hK => ?_
  refine stepP hK 30 (.pointer (some ⟨g1, 36, none⟩)) (by kernel_rfl) (run_ixG (k := 9) (n := (([((1, [114, 49], 0), 0), ((4, [61], 0), 2), ((2, [108, 111, 97, 100], 0), 3), ((4, [40], 0), 7), ((1, [120], 0), 8), ((4, [44], 0), 9), ((2, [97, 99, 113], 0), 10), ((4, [41], 0), 13), ((4, [59], 0), 14)] : List TkAt) ++ [endT [114, 49, 61, 108, 111, 97, 100, 40, 120, 44, 97, 99, 113, 41, 59]]).length) (s := 4) rfl rfl rfl Tryd.underlying29 (by kernel_rfl) (by decide)) fun a hK => ?_
  refine stepLoad hK 31 (.agg #[.int .i64 5, Str [], .int .i64 0, .int .i64 15]) (by kernel_rfl) rfl rfl ((hM.ownCells 3 rfl 36 4)) (by kernel_rfl) fun a hK => ?_
  refine stepP hK 32 (.agg #[.int .i64 5, Str [], .int .i64 0, .int .i64 15]) (by kernel_rfl) (by kernel_rfl) fun a hK => ?_
  refine stepP hK 33 (.bool true) (by kernel_rfl) (okBool (run_eqlTok rfl rfl rfl) (by decide)) fun a hK => ?_
  refine stepP hK 34 (.bool true) (by kernel_rfl) (by kernel_rfl) fun a hK => ?_
  refine stepM hK 35 34 (by kernel_rfl) (.inl rfl) rfl fun a hK => ?_
  refine stepLoad hK 36 (.agg #[.int .i64 0, .int .i64 0]) (by kernel_rfl) rfl rfl ((hM.row 0 rfl).cells 0 2) (by kernel_rfl) fun a hK => ?_
  refine stepP hK 37 (.agg #[.int .i64 0, .int .i64 0]) (by kernel_rfl) (by kernel_rfl) fun a hK => ?_
  refine stepP hK 38 (.bool true) (by kernel_rfl) (okBool (run_eqlFlt rfl rfl rfl) (by decide)) fun a hK => ?_
  refine stepP hK 39 (.bool true) (by kernel_rfl) (by kernel_rfl) fun a hK => ?_
  refine stepM hK 40 39 (by kernel_rfl) (.inl rfl) rfl fun a hK => ?_
  refine stepM hK 41 3 (by kernel_rfl) (.inl rfl) rfl fun a hK => ?_
  refine stepP hK 42 (.int .i64 4) (by kernel_rfl) (by kernel_rfl) fun a hK => ?_
  refine stepP hK 43 (.bool true) (by kernel_rfl) (by kernel_rfl) fun a hK => ?_
  refine stepP hK 44 (.bool true) (by kernel_rfl) (by kernel_rfl) fun a hK => ?_
  refine stepM hK 45 44 (by kernel_rfl) (.inl rfl) rfl fun a hK => ?_
  refine stepM hK 46 3 (by kernel_rfl) (.inl rfl) rfl fun a hK => ?_
  refine stepP hK 47 (.pointer (some ⟨g5, 4, none⟩)) (by kernel_rfl) (run_ixG (k := 1) (n := (([((1, [97], 0), 0), ((4, [60, 61], 0), 1), ((1, [98], 0), 3)] : List TkAt) ++ [endT [97, 60, 61, 98, 32, 47, 47, 99]]).length) (s := 4) rfl rfl rfl Tryd.underlying29 (by kernel_rfl) (by decide)) fun a hK => ?_
  refine stepP hK 48 (.pointer (some ⟨g5, 5, none⟩)) (by kernel_rfl) (by kernel_rfl) fun a hK => ?_
  refine stepLoad hK 49 (Str [60, 61]) (by kernel_rfl) rfl rfl (((hM.ownCells 1 rfl 4 4)).sub 1 1) (by kernel_rfl) fun a hK => ?_
  refine stepP hK 50 (.bool true) (by kernel_rfl) (by kernel_rfl) fun a hK => ?_
  refine stepP hK 51 (.bool true) (by kernel_rfl) (by kernel_rfl) fun a hK => ?_
  refine stepM hK 52 51 (by kernel_rfl) (.inl rfl) rfl fun a hK => ?_
  refine stepM hK 53 3 (by kernel_rfl) (.inl rfl) rfl fun a hK => ?_
  refine stepP hK 54 (.pointer (some ⟨g5, 12, none⟩)) (by kernel_rfl) (run_ixG (k := 3) (n := (([((1, [97], 0), 0), ((4, [60, 61], 0), 1), ((1, [98], 0), 3)] : List TkAt) ++ [endT [97, 60, 61, 98, 32, 47, 47, 99]]).length) (s := 4) rfl rfl rfl Tryd.underlying29 (by kernel_rfl) (by decide)) fun a hK => ?_
  refine stepP hK 55 (.pointer (some ⟨g5, 15, none⟩)) (by kernel_rfl) (by kernel_rfl) fun a hK => ?_
  refine stepLoad hK 56 (.int .i64 8) (by kernel_rfl) rfl rfl (((hM.ownCells 1 rfl 12 4)).sub 3 1) (by kernel_rfl) fun a hK => ?_
  refine stepP hK 57 (.bool true) (by kernel_rfl) (by kernel_rfl) fun a hK => ?_
  refine stepP hK 58 (.bool true) (by kernel_rfl) (by kernel_rfl) fun a hK => ?_
  refine stepM hK 0 58 (by kernel_rfl) (.inr rfl) rfl fun a hK => ?_
  refine region_done hK [(0, .bool true), (3, .slice (some ⟨g5, 0, none⟩) (([((1, [97], 0), 0), ((4, [60, 61], 0), 1), ((1, [98], 0), 3)] : List TkAt) ++ [endT [97, 60, 61, 98, 32, 47, 47, 99]]).length k6), (4, .pointer (some ⟨b8, 0, none⟩)), (1, .slice (some ⟨g1, 0, none⟩) (([((1, [114, 49], 0), 0), ((4, [61], 0), 2), ((2, [108, 111, 97, 100], 0), 3), ((4, [40], 0), 7), ((1, [120], 0), 8), ((4, [44], 0), 9), ((2, [97, 99, 113], 0), 10), ((4, [41], 0), 13), ((4, [59], 0), 14)] : List TkAt) ++ [endT [114, 49, 61, 108, 111, 97, 100, 40, 120, 44, 97, 99, 113, 41, 59]]).length k2), (2, .pointer (some ⟨b4, 0, none⟩))] ⟨rfl, rfl, rfl, rfl, rfl, trivial⟩ fun a hK => ?_
  refine wp_ret ?_
  exact ret_t hK rfl (u := (.bool true)) rfl (⟨rfl, hM.below⟩)
theorem en_cantileverlaw02_lives : Enters Tryd.prog 9 := enters_of Tryd.func9 (by kernel_rfl) rfl
theorem wordV_eq (l : List UInt8) : wordV l = .tuple #[.int .i64 (((wordOf l).1 : Nat) : Int), .bool (wordOf l).2] := by
  cases l with
  | nil => rfl
  | cons c r =>
    have h : (isLetter c && (c :: r).all wordB) = !((List.range (c :: r).length).any (fun i => badAt i ((c :: r).getD i 0)) || (c :: r).isEmpty) := by
      rw [List.isEmpty_cons, Bool.or_false, Bool.eq_iff_iff]
      constructor
      · intro h
        rw [Bool.and_eq_true, List.all_eq_true] at h
        rw [Bool.not_eq_true', List.any_eq_false]
        intro i hi
        have hlt : i < (c :: r).length := by simpa using hi
        have hm := h.2 ((c :: r)[i]) (List.getElem_mem hlt)
        rw [show (c :: r).getD i 0 = (c :: r)[i] by rw [List.getD_eq_getElem?_getD, List.getElem?_eq_getElem hlt]; rfl]
        unfold badAt
        cases i with
        | zero => rw [show ((c :: r)[0]'hlt) = c from rfl, h.1]; simp
        | succ i =>
          unfold wordB at hm
          simp only [Bool.or_eq_true] at hm
          generalize (c :: r)[i + 1] = x at hm
          rcases hm with hm | hm | hm
          · simp [hm]
          · simp [hm]; intros; omega
          · simp at hm; simp [hm]; intros; omega
      · intro h
        rw [Bool.not_eq_true', List.any_eq_false] at h
        rw [Bool.and_eq_true, List.all_eq_true]
        have h0 := h 0 (by simp)
        unfold badAt at h0
        refine ⟨by simpa using h0, fun d hd => ?_⟩
        obtain ⟨i, hi, rfl⟩ := List.getElem_of_mem hd
        have hb := h i (by simpa using hi)
        rw [show (c :: r).getD i 0 = (c :: r)[i] by rw [List.getD_eq_getElem?_getD, List.getElem?_eq_getElem hi]; rfl] at hb
        unfold badAt at hb
        unfold wordB
        cases hl : isLetter (c :: r)[i] with
        | true => rfl
        | false =>
          rw [hl] at hb
          simp at hb ⊢
          cases hd2 : isDigit (c :: r)[i] with
          | true => exact .inl rfl
          | false => exact .inr (hb.2 hd2)
    unfold wordV wordOf
    simp only
    rw [h]
    cases ((List.range (c :: r).length).any (fun i => badAt i ((c :: r).getD i 0)) || (c :: r).isEmpty) with
    | true => rfl
    | false => rfl
theorem en_ref_Word_ : Enters Tryd.prog 13 := enters_of Tryd.func13 (by kernel_rfl) rfl
set_option maxRecDepth 100000 in
set_option maxHeartbeats 4000000 in
theorem names_yes  (w0 : World) (hE : ErrOk w0) : Calls Tryd.prog 3 #[] w0 (Ret w0 (.bool true)) := by
  refine calls_K (args := []) (n := 48) (env := []) Tryd.func3 rfl rfl rfl trivial fun a w hK hM => ?_
  refine wp_seq ?_
  refine region_go (lst := [0]) (by kernel_rfl) ?_
  refine stepP hK 0 (.bool false) (by kernel_rfl) (by kernel_rfl) fun a hK => ?_
  refine region_done hK [(0, .bool false)] ⟨rfl, trivial⟩ fun a hK => ?_
  refine wp_seq ?_
  refine region_go (lst := [0, 1, 2]) (by kernel_rfl) ?_
  refine stepP hK 6 (.agg #[.int .i64 4, .int .i64 0]) (by kernel_rfl) (by kernel_rfl) fun a hK => ?_
  refine stepAlloc hK hM 1 24 [.int .i64 0, .int .i64 0] (fun b => .pointer (some ⟨b, 0, none⟩)) (by kernel_rfl) (by kernel_rfl) fun b1 a w hK hM => ?_
  refine stepStore hK hM 0 [.int .i64 4, .int .i64 0] (by kernel_rfl) rfl rfl rfl rfl (by kernel_rfl) fun w hM => ?_
  replace hM := hM.to [.row b1 24 [.int .i64 4, .int .i64 0]] (by kernel_rfl)
  refine region_done hK [(1, .pointer (some ⟨b1, 0, none⟩)), (0, .bool false)] ⟨rfl, rfl, trivial⟩ fun a hK => ?_
  refine wp_seq ?_
  refine region_go (lst := [0, 1, 2, 3, 4, 5]) (by kernel_rfl) ?_
  refine stepRet hK hM 8 #[Str [108, 111, 97, 100]] (.tuple #[.int .i64 2, .bool true]) (by kernel_rfl) (run_callE en_lex_Word rfl rfl (by kernel_rfl)) (ret_eq (lex_Word [108, 111, 97, 100] (by decide) _) (v' := .tuple #[.int .i64 2, .bool true]) (by kernel_rfl)) fun a w hK hM => ?_
  refine stepM hK 7 8 (by kernel_rfl) (.inl rfl) rfl fun a hK => ?_
  refine stepP hK 9 (.int .i64 2) (by kernel_rfl) (by kernel_rfl) fun a hK => ?_
  refine stepP hK 10 (.bool true) (by kernel_rfl) (by kernel_rfl) fun a hK => ?_
  refine stepM hK 2 9 (by kernel_rfl) (.inr rfl) rfl fun a hK => ?_
  refine stepM hK 3 10 (by kernel_rfl) (.inr rfl) rfl fun a hK => ?_
  refine region_done hK [(3, .bool true), (2, .int .i64 2), (1, .pointer (some ⟨b1, 0, none⟩)), (0, .bool false)] ⟨rfl, rfl, rfl, rfl, trivial⟩ fun a hK => ?_
  refine wp_seq ?_
  refine region_go (lst := [0, 1, 2, 3, 4, 5]) (by kernel_rfl) ?_
  refine stepRet hK hM 12 #[Str [49, 97]] (.tuple #[.int .i64 0, .bool false]) (by kernel_rfl) (run_callE en_lex_Word rfl rfl (by kernel_rfl)) (ret_eq (lex_Word [49, 97] (by decide) _) (v' := .tuple #[.int .i64 0, .bool false]) (by kernel_rfl)) fun a w hK hM => ?_
  refine stepM hK 11 12 (by kernel_rfl) (.inl rfl) rfl fun a hK => ?_
  refine stepP hK 13 (.int .i64 0) (by kernel_rfl) (by kernel_rfl) fun a hK => ?_
  refine stepP hK 14 (.bool false) (by kernel_rfl) (by kernel_rfl) fun a hK => ?_
  refine stepM hK 4 13 (by kernel_rfl) (.inr rfl) rfl fun a hK => ?_
  refine stepM hK 5 14 (by kernel_rfl) (.inr rfl) rfl fun a hK => ?_
  refine region_done hK [(5, .bool false), (3, .bool true), (2, .int .i64 2), (1, .pointer (some ⟨b1, 0, none⟩)), (0, .bool false)] ⟨rfl, rfl, rfl, rfl, rfl, trivial⟩ fun a hK => ?_
  refine wp_seq ?_
  refine region_go (lst := [0, 1, 2, 3, 4, 5, 6, 7, 8, 9, 10, 11, 12, 13, 14, 15, 16, 17, 18, 19, 20, 21, 22, 23, 24, 25, 26, 27, 28, 29, 30, 31, 32, 33]) (by kernel_rfl) ?_
  refine stepRet hK hM 15 #[] (.bool true) (by kernel_rfl) (run_callE en_cantileverlaw02_lives rfl rfl (by kernel_rfl)) (law_lives _ (hE.on hM.below)) fun a w hK hM => ?_
  refine stepM hK 16 15 (by kernel_rfl) (.inl rfl) rfl fun a hK => ?_
  refine stepLoad hK 17 (.agg #[.int .i64 4, .int .i64 0]) (by kernel_rfl) rfl rfl ((hM.row 0 rfl).cells 0 2) (by kernel_rfl) fun a hK => ?_
  refine stepRet hK hM 18 #[Str [48, 49], .agg #[.int .i64 4, .int .i64 0]] (.bool true) (by kernel_rfl) (run_callE en_cantileverlaw02_fault rfl rfl (by kernel_rfl)) (ret_eq (law_fault [48, 49] 4 0 (by decide) _ (hE.on hM.below)) (v' := .bool true) (by kernel_rfl)) fun a w hK hM => ?_
  refine stepP hK 19 (.bool true) (by kernel_rfl) (by kernel_rfl) fun a hK => ?_
  refine stepM hK 20 19 (by kernel_rfl) (.inl rfl) rfl fun a hK => ?_
  refine stepLoad hK 21 (.agg #[.int .i64 4, .int .i64 0]) (by kernel_rfl) rfl rfl ((hM.row 0 rfl).cells 0 2) (by kernel_rfl) fun a hK => ?_
  refine stepRet hK hM 22 #[Str [49, 97], .agg #[.int .i64 4, .int .i64 0]] (.bool true) (by kernel_rfl) (run_callE en_cantileverlaw02_fault rfl rfl (by kernel_rfl)) (ret_eq (law_fault [49, 97] 4 0 (by decide) _ (hE.on hM.below)) (v' := .bool true) (by kernel_rfl)) fun a w hK hM => ?_
  refine stepP hK 23 (.bool true) (by kernel_rfl) (by kernel_rfl) fun a hK => ?_
  refine stepM hK 24 23 (by kernel_rfl) (.inl rfl) rfl fun a hK => ?_
  refine stepLoad hK 25 (.agg #[.int .i64 4, .int .i64 0]) (by kernel_rfl) rfl rfl ((hM.row 0 rfl).cells 0 2) (by kernel_rfl) fun a hK => ?_
  refine stepRet hK hM 26 #[Str [35], .agg #[.int .i64 4, .int .i64 0]] (.bool true) (by kernel_rfl) (run_callE en_cantileverlaw02_fault rfl rfl (by kernel_rfl)) (ret_eq (law_fault [35] 4 0 (by decide) _ (hE.on hM.below)) (v' := .bool true) (by kernel_rfl)) fun a w hK hM => ?_
  refine stepP hK 27 (.bool true) (by kernel_rfl) (by kernel_rfl) fun a hK => ?_
  refine stepM hK 28 27 (by kernel_rfl) (.inl rfl) rfl fun a hK => ?_
  refine stepLoad hK 29 (.agg #[.int .i64 4, .int .i64 0]) (by kernel_rfl) rfl rfl ((hM.row 0 rfl).cells 0 2) (by kernel_rfl) fun a hK => ?_
  refine stepRet hK hM 30 #[Str [57, 50, 50, 51, 51, 55, 50, 48, 51, 54, 56, 53, 52, 55, 55, 53, 56, 48, 56], .agg #[.int .i64 4, .int .i64 0]] (.bool true) (by kernel_rfl) (run_callE en_cantileverlaw02_fault rfl rfl (by kernel_rfl)) (ret_eq (law_fault [57, 50, 50, 51, 51, 55, 50, 48, 51, 54, 56, 53, 52, 55, 55, 53, 56, 48, 56] 4 0 (by decide) _ (hE.on hM.below)) (v' := .bool true) (by kernel_rfl)) fun a w hK hM => ?_
  refine stepP hK 31 (.bool true) (by kernel_rfl) (by kernel_rfl) fun a hK => ?_
  refine stepM hK 32 31 (by kernel_rfl) (.inl rfl) rfl fun a hK => ?_
  refine stepLoad hK 33 (.agg #[.int .i64 4, .int .i64 0]) (by kernel_rfl) rfl rfl ((hM.row 0 rfl).cells 0 2) (by kernel_rfl) fun a hK => ?_
  refine stepRet hK hM 34 #[Str [57, 50, 50, 51, 51, 55, 50, 48, 51, 54, 56, 53, 52, 55, 55, 53, 56, 48, 55], .agg #[.int .i64 4, .int .i64 0]] (.bool false) (by kernel_rfl) (run_callE en_cantileverlaw02_fault rfl rfl (by kernel_rfl)) (ret_eq (law_fault [57, 50, 50, 51, 51, 55, 50, 48, 51, 54, 56, 53, 52, 55, 55, 53, 56, 48, 55] 4 0 (by decide) _ (hE.on hM.below)) (v' := .bool false) (by kernel_rfl)) fun a w hK hM => ?_
  refine stepP hK 35 (.bool true) (by kernel_rfl) (by kernel_rfl) fun a hK => ?_
  refine stepP hK 36 (.bool true) (by kernel_rfl) (by kernel_rfl) fun a hK => ?_
  refine stepM hK 37 36 (by kernel_rfl) (.inl rfl) rfl fun a hK => ?_
  refine stepM hK 38 2 (by kernel_rfl) (.inl rfl) rfl fun a hK => ?_
  refine stepP hK 39 (.bool true) (by kernel_rfl) (by kernel_rfl) fun a hK => ?_
  refine stepP hK 40 (.bool true) (by kernel_rfl) (by kernel_rfl) fun a hK => ?_
  refine stepM hK 41 40 (by kernel_rfl) (.inl rfl) rfl fun a hK => ?_
  refine stepM hK 42 3 (by kernel_rfl) (.inl rfl) rfl fun a hK => ?_
  refine stepP hK 43 (.bool true) (by kernel_rfl) (by kernel_rfl) fun a hK => ?_
  refine stepM hK 44 43 (by kernel_rfl) (.inl rfl) rfl fun a hK => ?_
  refine stepM hK 45 5 (by kernel_rfl) (.inl rfl) rfl fun a hK => ?_
  refine stepP hK 46 (.bool true) (by kernel_rfl) (by kernel_rfl) fun a hK => ?_
  refine stepP hK 47 (.bool true) (by kernel_rfl) (by kernel_rfl) fun a hK => ?_
  refine stepM hK 0 47 (by kernel_rfl) (.inr rfl) rfl fun a hK => ?_
  refine region_done hK [(0, .bool true), (5, .bool false), (3, .bool true), (2, .int .i64 2), (1, .pointer (some ⟨b1, 0, none⟩))] ⟨rfl, rfl, rfl, rfl, rfl, trivial⟩ fun a hK => ?_
  refine wp_ret ?_
  exact ret_t hK rfl (u := (.bool true)) rfl (⟨rfl, hM.below⟩)
theorem lexF_len : ∀ (n at_ : Nat) (r : List UInt8) (ts : List TkAt), lexF n at_ r = .inr ts → ts.length ≤ n := by
  intro n
  induction n with
  | zero => intro at_ r ts h; obtain rfl := Sum.inr.inj h; exact Nat.le_refl _
  | succ n ih =>
    intro at_ r ts h
    cases r with
    | nil => obtain rfl := Sum.inr.inj h; exact Nat.zero_le _
    | cons c r =>
      unfold lexF at h
      simp only at h
      split at h
      · have := ih _ _ _ h; omega
      · split at h
        · rename_i t _
          cases hq : lexF n (at_ + t.2.1.length) (List.drop t.2.1.length (c :: r)) with
          | inl e => rw [hq] at h; cases h
          | inr us =>
            rw [hq] at h
            obtain rfl := Sum.inr.inj h
            have := ih _ _ _ hq
            simp; exact this
        · cases h
theorem ts_le {l : List UInt8} {ts : List TkAt} (h : lexL 0 l = .inr ts) (hl : l.length ≤ 65536) : (ts ++ [endT l]).length ≤ 1000000000 := by
  have := lexF_len _ _ _ _ h
  rw [List.length_append]; simp; omega
set_option maxRecDepth 100000 in
set_option maxHeartbeats 4000000 in
theorem reads_yes (l : List UInt8) (w0 : World) (hE : ErrOk w0) (hlen : l.length ≤ 9223372036854775807) : Calls Tryd.prog 4 #[Str l] w0 (Ret w0 (.bool true)) := by
  refine calls_K (args := [Str l]) (n := 54) (env := [(0, Str l)]) Tryd.func4 rfl rfl rfl ⟨rfl, trivial⟩ fun a w hK hM => ?_
  refine wp_seq ?_
  refine region_go (lst := [0]) (by kernel_rfl) ?_
  refine stepP hK 2 (.bool false) (by kernel_rfl) (by kernel_rfl) fun a hK => ?_
  refine region_done hK [(2, .bool false), (0, Str l)] ⟨rfl, rfl, trivial⟩ fun a hK => ?_
  refine wp_seq ?_
  refine wp_seq ?_
  refine region_go (lst := [0, 1]) (by kernel_rfl) ?_
  refine stepRet hK hM 11 #[] (.bool true) (by kernel_rfl) (run_callE en_cantileverlaw02_lives rfl rfl (by kernel_rfl)) (law_lives _ (hE.on hM.below)) fun a w hK hM => ?_
  refine stepP hK 12 (.bool false) (by kernel_rfl) (by kernel_rfl) fun a hK => ?_
  refine region_done hK [(12, .bool false), (2, .bool false), (0, Str l)] ⟨rfl, rfl, rfl, trivial⟩ fun a hK => ?_
  refine wp_cond_false (hK.get rfl) ?_
  refine wp_skip ?_
  refine wp_seq ?_
  refine wp_seq ?_
  refine region_go (lst := [0, 1, 2]) (by kernel_rfl) ?_
  refine stepM hK 13 0 (by kernel_rfl) (.inl rfl) rfl fun a hK => ?_
  refine stepP hK 14 (.int .i64 ((l.length : Nat) : Int)) (by kernel_rfl) (by kernel_rfl) fun a hK => ?_
  by_cases h1 : (3000 : Int) < ((l.length : Nat) : Int)
  · refine stepP hK 15 (.bool true) (by kernel_rfl) (okBool (b := (decide ((3000 : Int) < ((l.length : Nat) : Int)))) (by kernel_rfl) (decide_eq_true h1)) fun a hK => ?_
    refine region_done hK [(15, .bool true), (12, .bool false), (2, .bool false), (0, Str l)] ⟨rfl, rfl, rfl, rfl, trivial⟩ fun a hK => ?_
    refine wp_cond_true (hK.get rfl) ?_
    refine wp_seq ?_
    refine region_go (lst := [0]) (by kernel_rfl) ?_
    refine stepP hK 2 (.bool true) (by kernel_rfl) (by kernel_rfl) fun a hK => ?_
    refine region_done hK [(2, .bool true), (15, .bool true), (12, .bool false), (0, Str l)] ⟨rfl, rfl, rfl, rfl, trivial⟩ fun a hK => ?_
    refine wp_ret ?_
    exact ret_t hK rfl (u := (.bool true)) rfl (⟨rfl, hM.below⟩)
  · refine stepP hK 15 (.bool false) (by kernel_rfl) (okBool (b := (decide ((3000 : Int) < ((l.length : Nat) : Int)))) (by kernel_rfl) (decide_eq_false h1)) fun a hK => ?_
    refine region_done hK [(15, .bool false), (12, .bool false), (2, .bool false), (0, Str l)] ⟨rfl, rfl, rfl, rfl, trivial⟩ fun a hK => ?_
    refine wp_cond_false (hK.get rfl) ?_
    refine wp_skip ?_
    refine wp_seq ?_
    refine region_go (lst := [0, 1, 2, 3, 4, 5, 6, 7]) (by kernel_rfl) ?_
    refine stepM hK 17 0 (by kernel_rfl) (.inl rfl) rfl fun a hK => ?_
    rcases hx2 : lexL 0 l with p2 | ts2
    · refine stepRet hK hM 18 #[Str l] (.tuple #[.slice none 0 0, .agg #[.int .i64 4, .int .i64 ((p2 : Nat) : Int)]]) (by kernel_rfl) (run_callE en_lex_All rfl rfl (by kernel_rfl)) (All_bad (lex_All l _ (hE.on hM.below) (by first | omega | decide | (simp; omega))) (by first | omega | (simp; omega)) hx2) fun a w hK hM => ?_
      refine stepM hK 16 18 (by kernel_rfl) (.inl rfl) rfl fun a hK => ?_
      refine stepP hK 19 (.slice none 0 0) (by kernel_rfl) (by kernel_rfl) fun a hK => ?_
      refine stepP hK 20 (.agg #[.int .i64 4, .int .i64 ((p2 : Nat) : Int)]) (by kernel_rfl) (by kernel_rfl) fun a hK => ?_
      refine stepAlloc hK hM 4 24 [.int .i64 0, .int .i64 0] (fun b => .pointer (some ⟨b, 0, none⟩)) (by kernel_rfl) (by kernel_rfl) fun b3 a w hK hM => ?_
      refine stepM hK 3 19 (by kernel_rfl) (.inr rfl) rfl fun a hK => ?_
      refine stepStore hK hM 0 [.int .i64 4, .int .i64 ((p2 : Nat) : Int)] (by kernel_rfl) rfl rfl rfl rfl (by kernel_rfl) fun w hM => ?_
      replace hM := hM.to [.row b3 24 [.int .i64 4, .int .i64 ((p2 : Nat) : Int)]] (by kernel_rfl)
      refine region_done hK [(3, .slice none 0 0), (4, .pointer (some ⟨b3, 0, none⟩)), (15, .bool false), (12, .bool false), (2, .bool false), (0, Str l)] ⟨rfl, rfl, rfl, rfl, rfl, rfl, trivial⟩ fun a hK => ?_
      refine wp_seq ?_
      refine region_go (lst := [0, 1, 2, 3, 4, 5, 6, 7]) (by kernel_rfl) ?_
      refine stepM hK 22 0 (by kernel_rfl) (.inl rfl) rfl fun a hK => ?_
      refine stepRet hK hM 23 #[Str l] (.tuple #[.slice none 0 0, .agg #[.int .i64 4, .int .i64 ((p2 : Nat) : Int)]]) (by kernel_rfl) (run_callE en_cantileverref02_All rfl rfl (by kernel_rfl)) (All_bad (ref_All l _ (by first | omega | decide | (simp; omega))) (by first | omega | (simp; omega)) hx2) fun a w hK hM => ?_
      refine stepM hK 21 23 (by kernel_rfl) (.inl rfl) rfl fun a hK => ?_
      refine stepP hK 24 (.slice none 0 0) (by kernel_rfl) (by kernel_rfl) fun a hK => ?_
      refine stepP hK 25 (.agg #[.int .i64 4, .int .i64 ((p2 : Nat) : Int)]) (by kernel_rfl) (by kernel_rfl) fun a hK => ?_
      refine stepAlloc hK hM 6 24 [.int .i64 0, .int .i64 0] (fun b => .pointer (some ⟨b, 0, none⟩)) (by kernel_rfl) (by kernel_rfl) fun b4 a w hK hM => ?_
      refine stepM hK 5 24 (by kernel_rfl) (.inr rfl) rfl fun a hK => ?_
      refine stepStore hK hM 0 [.int .i64 4, .int .i64 ((p2 : Nat) : Int)] (by kernel_rfl) rfl rfl rfl rfl (by kernel_rfl) fun w hM => ?_
      replace hM := hM.to [.row b4 24 [.int .i64 4, .int .i64 ((p2 : Nat) : Int)], .row b3 24 [.int .i64 4, .int .i64 ((p2 : Nat) : Int)]] (by kernel_rfl)
      refine region_done hK [(5, .slice none 0 0), (6, .pointer (some ⟨b4, 0, none⟩)), (3, .slice none 0 0), (4, .pointer (some ⟨b3, 0, none⟩)), (15, .bool false), (12, .bool false), (2, .bool false), (0, Str l)] ⟨rfl, rfl, rfl, rfl, rfl, rfl, rfl, rfl, trivial⟩ fun a hK => ?_
      refine wp_seq ?_
      refine region_go (lst := [0, 1, 2, 3, 4, 5, 6]) (by kernel_rfl) ?_
      refine stepM hK 27 0 (by kernel_rfl) (.inl rfl) rfl fun a hK => ?_
      refine stepRet hK hM 28 #[Str l] (.tuple #[.int .i64 (((wordOf l).1 : Nat) : Int), .bool (wordOf l).2]) (by kernel_rfl) (run_callE en_lex_Word rfl rfl (by kernel_rfl)) (ret_eq (lex_Word l (by omega) _) (wordV_eq l)) fun a w hK hM => ?_
      refine stepM hK 26 28 (by kernel_rfl) (.inl rfl) rfl fun a hK => ?_
      refine stepP hK 29 (.int .i64 (((wordOf l).1 : Nat) : Int)) (by kernel_rfl) (by kernel_rfl) fun a hK => ?_
      rcases Bool.eq_false_or_eq_true (wordOf l).2 with h5 | h5
      · refine stepP hK 30 (.bool true) (by kernel_rfl) (okBool (b := (wordOf l).2) (by kernel_rfl) h5) fun a hK => ?_
        refine stepM hK 7 29 (by kernel_rfl) (.inr rfl) rfl fun a hK => ?_
        refine stepM hK 8 30 (by kernel_rfl) (.inr rfl) rfl fun a hK => ?_
        refine region_done hK [(8, .bool true), (7, .int .i64 (((wordOf l).1 : Nat) : Int)), (5, .slice none 0 0), (6, .pointer (some ⟨b4, 0, none⟩)), (3, .slice none 0 0), (4, .pointer (some ⟨b3, 0, none⟩)), (15, .bool false), (12, .bool false), (2, .bool false), (0, Str l)] ⟨rfl, rfl, rfl, rfl, rfl, rfl, rfl, rfl, rfl, rfl, trivial⟩ fun a hK => ?_
        refine wp_seq ?_
        refine region_go (lst := [0, 1, 2, 3, 4, 5, 6]) (by kernel_rfl) ?_
        refine stepM hK 32 0 (by kernel_rfl) (.inl rfl) rfl fun a hK => ?_
        refine stepRet hK hM 33 #[Str l] (.tuple #[.int .i64 (((wordOf l).1 : Nat) : Int), .bool (wordOf l).2]) (by kernel_rfl) (run_callE en_ref_Word_ rfl rfl (by kernel_rfl)) (ref_Word l _ (by omega)) fun a w hK hM => ?_
        refine stepM hK 31 33 (by kernel_rfl) (.inl rfl) rfl fun a hK => ?_
        refine stepP hK 34 (.int .i64 (((wordOf l).1 : Nat) : Int)) (by kernel_rfl) (by kernel_rfl) fun a hK => ?_
        refine stepP hK 35 (.bool true) (by kernel_rfl) (okBool (b := (wordOf l).2) (by kernel_rfl) h5) fun a hK => ?_
        refine stepM hK 9 34 (by kernel_rfl) (.inr rfl) rfl fun a hK => ?_
        refine stepM hK 10 35 (by kernel_rfl) (.inr rfl) rfl fun a hK => ?_
        refine region_done hK [(10, .bool true), (9, .int .i64 (((wordOf l).1 : Nat) : Int)), (8, .bool true), (7, .int .i64 (((wordOf l).1 : Nat) : Int)), (5, .slice none 0 0), (6, .pointer (some ⟨b4, 0, none⟩)), (3, .slice none 0 0), (4, .pointer (some ⟨b3, 0, none⟩)), (15, .bool false), (12, .bool false), (2, .bool false), (0, Str l)] ⟨rfl, rfl, rfl, rfl, rfl, rfl, rfl, rfl, rfl, rfl, rfl, rfl, trivial⟩ fun a hK => ?_
        refine wp_seq ?_
        refine region_go (lst := [0, 1, 2, 3, 4, 5, 6, 7, 8, 9, 10, 11, 12, 13, 14, 15, 16, 17, 18]) (by kernel_rfl) ?_
        refine stepM hK 36 3 (by kernel_rfl) (.inl rfl) rfl fun a hK => ?_
        refine stepM hK 37 5 (by kernel_rfl) (.inl rfl) rfl fun a hK => ?_
        refine stepRet hK hM 38 #[.slice none 0 0, .slice none 0 0] (.bool true) (by kernel_rfl) (run_callE en_cantileverkit_Tokens rfl rfl (by kernel_rfl)) (ret_eq (kit_Tokens _ (by decide) (SliceAt.nil _) (SliceAt.nil _)) (v' := .bool true) (congrArg Value.bool (decide_eq_true rfl))) fun a w hK hM => ?_
        refine stepM hK 39 38 (by kernel_rfl) (.inl rfl) rfl fun a hK => ?_
        refine stepLoad hK 40 (.agg #[.int .i64 4, .int .i64 ((p2 : Nat) : Int)]) (by kernel_rfl) rfl rfl ((hM.row 1 rfl).cells 0 2) (by kernel_rfl) fun a hK => ?_
        refine stepLoad hK 41 (.agg #[.int .i64 4, .int .i64 ((p2 : Nat) : Int)]) (by kernel_rfl) rfl rfl ((hM.row 0 rfl).cells 0 2) (by kernel_rfl) fun a hK => ?_
        refine stepP hK 42 (.bool true) (by kernel_rfl) (okBool (b := (decide ((4 : Int) = 4) && decide ((((p2 : Nat) : Int) : Int) = ((p2 : Nat) : Int)))) (run_eqlFlt rfl rfl rfl) (by simp)) fun a hK => ?_
        refine stepP hK 43 (.bool true) (by kernel_rfl) (by kernel_rfl) fun a hK => ?_
        refine stepM hK 44 43 (by kernel_rfl) (.inl rfl) rfl fun a hK => ?_
        refine stepM hK 45 7 (by kernel_rfl) (.inl rfl) rfl fun a hK => ?_
        refine stepM hK 46 9 (by kernel_rfl) (.inl rfl) rfl fun a hK => ?_
        refine stepP hK 47 (.bool true) (by kernel_rfl) (okBool (b := (decide (((((wordOf l).1 : Nat) : Int) : Int) = (((wordOf l).1 : Nat) : Int)))) (by kernel_rfl) (decide_eq_true rfl)) fun a hK => ?_
        refine stepP hK 48 (.bool true) (by kernel_rfl) (by kernel_rfl) fun a hK => ?_
        refine stepM hK 49 48 (by kernel_rfl) (.inl rfl) rfl fun a hK => ?_
        refine stepM hK 50 8 (by kernel_rfl) (.inl rfl) rfl fun a hK => ?_
        refine stepM hK 51 10 (by kernel_rfl) (.inl rfl) rfl fun a hK => ?_
        refine stepP hK 52 (.bool true) (by kernel_rfl) (by kernel_rfl) fun a hK => ?_
        refine stepP hK 53 (.bool true) (by kernel_rfl) (by kernel_rfl) fun a hK => ?_
        refine stepM hK 2 53 (by kernel_rfl) (.inr rfl) rfl fun a hK => ?_
        refine region_done hK [(2, .bool true), (10, .bool true), (9, .int .i64 (((wordOf l).1 : Nat) : Int)), (8, .bool true), (7, .int .i64 (((wordOf l).1 : Nat) : Int)), (5, .slice none 0 0), (6, .pointer (some ⟨b4, 0, none⟩)), (3, .slice none 0 0), (4, .pointer (some ⟨b3, 0, none⟩)), (15, .bool false), (12, .bool false), (0, Str l)] ⟨rfl, rfl, rfl, rfl, rfl, rfl, rfl, rfl, rfl, rfl, rfl, rfl, trivial⟩ fun a hK => ?_
        refine wp_ret ?_
        exact ret_t hK rfl (u := (.bool true)) rfl (⟨rfl, hM.below⟩)
      · refine stepP hK 30 (.bool false) (by kernel_rfl) (okBool (b := (wordOf l).2) (by kernel_rfl) h5) fun a hK => ?_
        refine stepM hK 7 29 (by kernel_rfl) (.inr rfl) rfl fun a hK => ?_
        refine stepM hK 8 30 (by kernel_rfl) (.inr rfl) rfl fun a hK => ?_
        refine region_done hK [(8, .bool false), (7, .int .i64 (((wordOf l).1 : Nat) : Int)), (5, .slice none 0 0), (6, .pointer (some ⟨b4, 0, none⟩)), (3, .slice none 0 0), (4, .pointer (some ⟨b3, 0, none⟩)), (15, .bool false), (12, .bool false), (2, .bool false), (0, Str l)] ⟨rfl, rfl, rfl, rfl, rfl, rfl, rfl, rfl, rfl, rfl, trivial⟩ fun a hK => ?_
        refine wp_seq ?_
        refine region_go (lst := [0, 1, 2, 3, 4, 5, 6]) (by kernel_rfl) ?_
        refine stepM hK 32 0 (by kernel_rfl) (.inl rfl) rfl fun a hK => ?_
        refine stepRet hK hM 33 #[Str l] (.tuple #[.int .i64 (((wordOf l).1 : Nat) : Int), .bool (wordOf l).2]) (by kernel_rfl) (run_callE en_ref_Word_ rfl rfl (by kernel_rfl)) (ref_Word l _ (by omega)) fun a w hK hM => ?_
        refine stepM hK 31 33 (by kernel_rfl) (.inl rfl) rfl fun a hK => ?_
        refine stepP hK 34 (.int .i64 (((wordOf l).1 : Nat) : Int)) (by kernel_rfl) (by kernel_rfl) fun a hK => ?_
        refine stepP hK 35 (.bool false) (by kernel_rfl) (okBool (b := (wordOf l).2) (by kernel_rfl) h5) fun a hK => ?_
        refine stepM hK 9 34 (by kernel_rfl) (.inr rfl) rfl fun a hK => ?_
        refine stepM hK 10 35 (by kernel_rfl) (.inr rfl) rfl fun a hK => ?_
        refine region_done hK [(10, .bool false), (9, .int .i64 (((wordOf l).1 : Nat) : Int)), (8, .bool false), (7, .int .i64 (((wordOf l).1 : Nat) : Int)), (5, .slice none 0 0), (6, .pointer (some ⟨b4, 0, none⟩)), (3, .slice none 0 0), (4, .pointer (some ⟨b3, 0, none⟩)), (15, .bool false), (12, .bool false), (2, .bool false), (0, Str l)] ⟨rfl, rfl, rfl, rfl, rfl, rfl, rfl, rfl, rfl, rfl, rfl, rfl, trivial⟩ fun a hK => ?_
        refine wp_seq ?_
        refine region_go (lst := [0, 1, 2, 3, 4, 5, 6, 7, 8, 9, 10, 11, 12, 13, 14, 15, 16, 17, 18]) (by kernel_rfl) ?_
        refine stepM hK 36 3 (by kernel_rfl) (.inl rfl) rfl fun a hK => ?_
        refine stepM hK 37 5 (by kernel_rfl) (.inl rfl) rfl fun a hK => ?_
        refine stepRet hK hM 38 #[.slice none 0 0, .slice none 0 0] (.bool true) (by kernel_rfl) (run_callE en_cantileverkit_Tokens rfl rfl (by kernel_rfl)) (ret_eq (kit_Tokens _ (by decide) (SliceAt.nil _) (SliceAt.nil _)) (v' := .bool true) (congrArg Value.bool (decide_eq_true rfl))) fun a w hK hM => ?_
        refine stepM hK 39 38 (by kernel_rfl) (.inl rfl) rfl fun a hK => ?_
        refine stepLoad hK 40 (.agg #[.int .i64 4, .int .i64 ((p2 : Nat) : Int)]) (by kernel_rfl) rfl rfl ((hM.row 1 rfl).cells 0 2) (by kernel_rfl) fun a hK => ?_
        refine stepLoad hK 41 (.agg #[.int .i64 4, .int .i64 ((p2 : Nat) : Int)]) (by kernel_rfl) rfl rfl ((hM.row 0 rfl).cells 0 2) (by kernel_rfl) fun a hK => ?_
        refine stepP hK 42 (.bool true) (by kernel_rfl) (okBool (b := (decide ((4 : Int) = 4) && decide ((((p2 : Nat) : Int) : Int) = ((p2 : Nat) : Int)))) (run_eqlFlt rfl rfl rfl) (by simp)) fun a hK => ?_
        refine stepP hK 43 (.bool true) (by kernel_rfl) (by kernel_rfl) fun a hK => ?_
        refine stepM hK 44 43 (by kernel_rfl) (.inl rfl) rfl fun a hK => ?_
        refine stepM hK 45 7 (by kernel_rfl) (.inl rfl) rfl fun a hK => ?_
        refine stepM hK 46 9 (by kernel_rfl) (.inl rfl) rfl fun a hK => ?_
        refine stepP hK 47 (.bool true) (by kernel_rfl) (okBool (b := (decide (((((wordOf l).1 : Nat) : Int) : Int) = (((wordOf l).1 : Nat) : Int)))) (by kernel_rfl) (decide_eq_true rfl)) fun a hK => ?_
        refine stepP hK 48 (.bool true) (by kernel_rfl) (by kernel_rfl) fun a hK => ?_
        refine stepM hK 49 48 (by kernel_rfl) (.inl rfl) rfl fun a hK => ?_
        refine stepM hK 50 8 (by kernel_rfl) (.inl rfl) rfl fun a hK => ?_
        refine stepM hK 51 10 (by kernel_rfl) (.inl rfl) rfl fun a hK => ?_
        refine stepP hK 52 (.bool true) (by kernel_rfl) (by kernel_rfl) fun a hK => ?_
        refine stepP hK 53 (.bool true) (by kernel_rfl) (by kernel_rfl) fun a hK => ?_
        refine stepM hK 2 53 (by kernel_rfl) (.inr rfl) rfl fun a hK => ?_
        refine region_done hK [(2, .bool true), (10, .bool false), (9, .int .i64 (((wordOf l).1 : Nat) : Int)), (8, .bool false), (7, .int .i64 (((wordOf l).1 : Nat) : Int)), (5, .slice none 0 0), (6, .pointer (some ⟨b4, 0, none⟩)), (3, .slice none 0 0), (4, .pointer (some ⟨b3, 0, none⟩)), (15, .bool false), (12, .bool false), (0, Str l)] ⟨rfl, rfl, rfl, rfl, rfl, rfl, rfl, rfl, rfl, rfl, rfl, rfl, trivial⟩ fun a hK => ?_
        refine wp_ret ?_
        exact ret_t hK rfl (u := (.bool true)) rfl (⟨rfl, hM.below⟩)
    · refine stepCall hK hM 18 #[Str l] (by kernel_rfl) (run_callE en_lex_All rfl rfl (by kernel_rfl)) (All_good (lex_All l _ (hE.on hM.below) (by first | omega | decide | (simp; omega))) (by first | omega | (simp; omega)) hx2) ?_
      rintro ⟨g6, k7⟩ a w - hK hM
      refine stepM hK 16 18 (by kernel_rfl) (.inl rfl) rfl fun a hK => ?_
      refine stepP hK 19 (.slice (some ⟨g6, 0, none⟩) (ts2 ++ [endT l]).length k7) (by kernel_rfl) (by kernel_rfl) fun a hK => ?_
      refine stepP hK 20 (.agg #[.int .i64 0, .int .i64 0]) (by kernel_rfl) (by kernel_rfl) fun a hK => ?_
      refine stepAlloc hK hM 4 24 [.int .i64 0, .int .i64 0] (fun b => .pointer (some ⟨b, 0, none⟩)) (by kernel_rfl) (by kernel_rfl) fun b9 a w hK hM => ?_
      refine stepM hK 3 19 (by kernel_rfl) (.inr rfl) rfl fun a hK => ?_
      refine stepStore hK hM 0 [.int .i64 0, .int .i64 0] (by kernel_rfl) rfl rfl rfl rfl (by kernel_rfl) fun w hM => ?_
      replace hM := hM.to [.row b9 24 [.int .i64 0, .int .i64 0], .own 35 4 (.slice (some ⟨g6, 0, none⟩) (ts2 ++ [endT l]).length k7) (ts2 ++ [endT l]).length (cellsT (ts2 ++ [endT l]))] (by kernel_rfl)
      refine region_done hK [(3, .slice (some ⟨g6, 0, none⟩) (ts2 ++ [endT l]).length k7), (4, .pointer (some ⟨b9, 0, none⟩)), (15, .bool false), (12, .bool false), (2, .bool false), (0, Str l)] ⟨rfl, rfl, rfl, rfl, rfl, rfl, trivial⟩ fun a hK => ?_
      refine wp_seq ?_
      refine region_go (lst := [0, 1, 2, 3, 4, 5, 6, 7]) (by kernel_rfl) ?_
      refine stepM hK 22 0 (by kernel_rfl) (.inl rfl) rfl fun a hK => ?_
      refine stepCall hK hM 23 #[Str l] (by kernel_rfl) (run_callE en_cantileverref02_All rfl rfl (by kernel_rfl)) (All_good (ref_All l _ (by first | omega | decide | (simp; omega))) (by first | omega | (simp; omega)) hx2) ?_
      rintro ⟨g10, k11⟩ a w - hK hM
      refine stepM hK 21 23 (by kernel_rfl) (.inl rfl) rfl fun a hK => ?_
      refine stepP hK 24 (.slice (some ⟨g10, 0, none⟩) (ts2 ++ [endT l]).length k11) (by kernel_rfl) (by kernel_rfl) fun a hK => ?_
      refine stepP hK 25 (.agg #[.int .i64 0, .int .i64 0]) (by kernel_rfl) (by kernel_rfl) fun a hK => ?_
      refine stepAlloc hK hM 6 24 [.int .i64 0, .int .i64 0] (fun b => .pointer (some ⟨b, 0, none⟩)) (by kernel_rfl) (by kernel_rfl) fun b13 a w hK hM => ?_
      refine stepM hK 5 24 (by kernel_rfl) (.inr rfl) rfl fun a hK => ?_
      refine stepStore hK hM 0 [.int .i64 0, .int .i64 0] (by kernel_rfl) rfl rfl rfl rfl (by kernel_rfl) fun w hM => ?_
      replace hM := hM.to [.row b13 24 [.int .i64 0, .int .i64 0], .own 35 4 (.slice (some ⟨g10, 0, none⟩) (ts2 ++ [endT l]).length k11) (ts2 ++ [endT l]).length (cellsT (ts2 ++ [endT l])), .row b9 24 [.int .i64 0, .int .i64 0], .own 35 4 (.slice (some ⟨g6, 0, none⟩) (ts2 ++ [endT l]).length k7) (ts2 ++ [endT l]).length (cellsT (ts2 ++ [endT l]))] (by kernel_rfl)
      refine region_done hK [(5, .slice (some ⟨g10, 0, none⟩) (ts2 ++ [endT l]).length k11), (6, .pointer (some ⟨b13, 0, none⟩)), (3, .slice (some ⟨g6, 0, none⟩) (ts2 ++ [endT l]).length k7), (4, .pointer (some ⟨b9, 0, none⟩)), (15, .bool false), (12, .bool false), (2, .bool false), (0, Str l)] ⟨rfl, rfl, rfl, rfl, rfl, rfl, rfl, rfl, trivial⟩ fun a hK => ?_
      refine wp_seq ?_
      refine region_go (lst := [0, 1, 2, 3, 4, 5, 6]) (by kernel_rfl) ?_
      refine stepM hK 27 0 (by kernel_rfl) (.inl rfl) rfl fun a hK => ?_
      refine stepRet hK hM 28 #[Str l] (.tuple #[.int .i64 (((wordOf l).1 : Nat) : Int), .bool (wordOf l).2]) (by kernel_rfl) (run_callE en_lex_Word rfl rfl (by kernel_rfl)) (ret_eq (lex_Word l (by omega) _) (wordV_eq l)) fun a w hK hM => ?_
      refine stepM hK 26 28 (by kernel_rfl) (.inl rfl) rfl fun a hK => ?_
      refine stepP hK 29 (.int .i64 (((wordOf l).1 : Nat) : Int)) (by kernel_rfl) (by kernel_rfl) fun a hK => ?_
      rcases Bool.eq_false_or_eq_true (wordOf l).2 with h14 | h14
      · refine stepP hK 30 (.bool true) (by kernel_rfl) (okBool (b := (wordOf l).2) (by kernel_rfl) h14) fun a hK => ?_
        refine stepM hK 7 29 (by kernel_rfl) (.inr rfl) rfl fun a hK => ?_
        refine stepM hK 8 30 (by kernel_rfl) (.inr rfl) rfl fun a hK => ?_
        refine region_done hK [(8, .bool true), (7, .int .i64 (((wordOf l).1 : Nat) : Int)), (5, .slice (some ⟨g10, 0, none⟩) (ts2 ++ [endT l]).length k11), (6, .pointer (some ⟨b13, 0, none⟩)), (3, .slice (some ⟨g6, 0, none⟩) (ts2 ++ [endT l]).length k7), (4, .pointer (some ⟨b9, 0, none⟩)), (15, .bool false), (12, .bool false), (2, .bool false), (0, Str l)] ⟨rfl, rfl, rfl, rfl, rfl, rfl, rfl, rfl, rfl, rfl, trivial⟩ fun a hK => ?_
        refine wp_seq ?_
        refine region_go (lst := [0, 1, 2, 3, 4, 5, 6]) (by kernel_rfl) ?_
        refine stepM hK 32 0 (by kernel_rfl) (.inl rfl) rfl fun a hK => ?_
        refine stepRet hK hM 33 #[Str l] (.tuple #[.int .i64 (((wordOf l).1 : Nat) : Int), .bool (wordOf l).2]) (by kernel_rfl) (run_callE en_ref_Word_ rfl rfl (by kernel_rfl)) (ref_Word l _ (by omega)) fun a w hK hM => ?_
        refine stepM hK 31 33 (by kernel_rfl) (.inl rfl) rfl fun a hK => ?_
        refine stepP hK 34 (.int .i64 (((wordOf l).1 : Nat) : Int)) (by kernel_rfl) (by kernel_rfl) fun a hK => ?_
        refine stepP hK 35 (.bool true) (by kernel_rfl) (okBool (b := (wordOf l).2) (by kernel_rfl) h14) fun a hK => ?_
        refine stepM hK 9 34 (by kernel_rfl) (.inr rfl) rfl fun a hK => ?_
        refine stepM hK 10 35 (by kernel_rfl) (.inr rfl) rfl fun a hK => ?_
        refine region_done hK [(10, .bool true), (9, .int .i64 (((wordOf l).1 : Nat) : Int)), (8, .bool true), (7, .int .i64 (((wordOf l).1 : Nat) : Int)), (5, .slice (some ⟨g10, 0, none⟩) (ts2 ++ [endT l]).length k11), (6, .pointer (some ⟨b13, 0, none⟩)), (3, .slice (some ⟨g6, 0, none⟩) (ts2 ++ [endT l]).length k7), (4, .pointer (some ⟨b9, 0, none⟩)), (15, .bool false), (12, .bool false), (2, .bool false), (0, Str l)] ⟨rfl, rfl, rfl, rfl, rfl, rfl, rfl, rfl, rfl, rfl, rfl, rfl, trivial⟩ fun a hK => ?_
        refine wp_seq ?_
        refine region_go (lst := [0, 1, 2, 3, 4, 5, 6, 7, 8, 9, 10, 11, 12, 13, 14, 15, 16, 17, 18]) (by kernel_rfl) ?_
        refine stepM hK 36 3 (by kernel_rfl) (.inl rfl) rfl fun a hK => ?_
        refine stepM hK 37 5 (by kernel_rfl) (.inl rfl) rfl fun a hK => ?_
        refine stepRet hK hM 38 #[.slice (some ⟨g6, 0, none⟩) (ts2 ++ [endT l]).length k7, .slice (some ⟨g10, 0, none⟩) (ts2 ++ [endT l]).length k11] (.bool true) (by kernel_rfl) (run_callE en_cantileverkit_Tokens rfl rfl (by kernel_rfl)) (ret_eq (kit_Tokens _ (by rw [List.length_map]; exact ts_le (by assumption) (by omega)) (hM.sliceAt 3 rfl rfl) (hM.sliceAt 1 rfl rfl)) (v' := .bool true) (congrArg Value.bool (decide_eq_true rfl))) fun a w hK hM => ?_
        refine stepM hK 39 38 (by kernel_rfl) (.inl rfl) rfl fun a hK => ?_
        refine stepLoad hK 40 (.agg #[.int .i64 0, .int .i64 0]) (by kernel_rfl) rfl rfl ((hM.row 2 rfl).cells 0 2) (by kernel_rfl) fun a hK => ?_
        refine stepLoad hK 41 (.agg #[.int .i64 0, .int .i64 0]) (by kernel_rfl) rfl rfl ((hM.row 0 rfl).cells 0 2) (by kernel_rfl) fun a hK => ?_
        refine stepP hK 42 (.bool true) (by kernel_rfl) (okBool (run_eqlFlt rfl rfl rfl) (by decide)) fun a hK => ?_
        refine stepP hK 43 (.bool true) (by kernel_rfl) (by kernel_rfl) fun a hK => ?_
        refine stepM hK 44 43 (by kernel_rfl) (.inl rfl) rfl fun a hK => ?_
        refine stepM hK 45 7 (by kernel_rfl) (.inl rfl) rfl fun a hK => ?_
        refine stepM hK 46 9 (by kernel_rfl) (.inl rfl) rfl fun a hK => ?_
        refine stepP hK 47 (.bool true) (by kernel_rfl) (okBool (b := (decide (((((wordOf l).1 : Nat) : Int) : Int) = (((wordOf l).1 : Nat) : Int)))) (by kernel_rfl) (decide_eq_true rfl)) fun a hK => ?_
        refine stepP hK 48 (.bool true) (by kernel_rfl) (by kernel_rfl) fun a hK => ?_
        refine stepM hK 49 48 (by kernel_rfl) (.inl rfl) rfl fun a hK => ?_
        refine stepM hK 50 8 (by kernel_rfl) (.inl rfl) rfl fun a hK => ?_
        refine stepM hK 51 10 (by kernel_rfl) (.inl rfl) rfl fun a hK => ?_
        refine stepP hK 52 (.bool true) (by kernel_rfl) (by kernel_rfl) fun a hK => ?_
        refine stepP hK 53 (.bool true) (by kernel_rfl) (by kernel_rfl) fun a hK => ?_
        refine stepM hK 2 53 (by kernel_rfl) (.inr rfl) rfl fun a hK => ?_
        refine region_done hK [(2, .bool true), (10, .bool true), (9, .int .i64 (((wordOf l).1 : Nat) : Int)), (8, .bool true), (7, .int .i64 (((wordOf l).1 : Nat) : Int)), (5, .slice (some ⟨g10, 0, none⟩) (ts2 ++ [endT l]).length k11), (6, .pointer (some ⟨b13, 0, none⟩)), (3, .slice (some ⟨g6, 0, none⟩) (ts2 ++ [endT l]).length k7), (4, .pointer (some ⟨b9, 0, none⟩)), (15, .bool false), (12, .bool false), (0, Str l)] ⟨rfl, rfl, rfl, rfl, rfl, rfl, rfl, rfl, rfl, rfl, rfl, rfl, trivial⟩ fun a hK => ?_
        refine wp_ret ?_
        exact ret_t hK rfl (u := (.bool true)) rfl (⟨rfl, hM.below⟩)
      · refine stepP hK 30 (.bool false) (by kernel_rfl) (okBool (b := (wordOf l).2) (by kernel_rfl) h14) fun a hK => ?_
        refine stepM hK 7 29 (by kernel_rfl) (.inr rfl) rfl fun a hK => ?_
        refine stepM hK 8 30 (by kernel_rfl) (.inr rfl) rfl fun a hK => ?_
        refine region_done hK [(8, .bool false), (7, .int .i64 (((wordOf l).1 : Nat) : Int)), (5, .slice (some ⟨g10, 0, none⟩) (ts2 ++ [endT l]).length k11), (6, .pointer (some ⟨b13, 0, none⟩)), (3, .slice (some ⟨g6, 0, none⟩) (ts2 ++ [endT l]).length k7), (4, .pointer (some ⟨b9, 0, none⟩)), (15, .bool false), (12, .bool false), (2, .bool false), (0, Str l)] ⟨rfl, rfl, rfl, rfl, rfl, rfl, rfl, rfl, rfl, rfl, trivial⟩ fun a hK => ?_
        refine wp_seq ?_
        refine region_go (lst := [0, 1, 2, 3, 4, 5, 6]) (by kernel_rfl) ?_
        refine stepM hK 32 0 (by kernel_rfl) (.inl rfl) rfl fun a hK => ?_
        refine stepRet hK hM 33 #[Str l] (.tuple #[.int .i64 (((wordOf l).1 : Nat) : Int), .bool (wordOf l).2]) (by kernel_rfl) (run_callE en_ref_Word_ rfl rfl (by kernel_rfl)) (ref_Word l _ (by omega)) fun a w hK hM => ?_
        refine stepM hK 31 33 (by kernel_rfl) (.inl rfl) rfl fun a hK => ?_
        refine stepP hK 34 (.int .i64 (((wordOf l).1 : Nat) : Int)) (by kernel_rfl) (by kernel_rfl) fun a hK => ?_
        refine stepP hK 35 (.bool false) (by kernel_rfl) (okBool (b := (wordOf l).2) (by kernel_rfl) h14) fun a hK => ?_
        refine stepM hK 9 34 (by kernel_rfl) (.inr rfl) rfl fun a hK => ?_
        refine stepM hK 10 35 (by kernel_rfl) (.inr rfl) rfl fun a hK => ?_
        refine region_done hK [(10, .bool false), (9, .int .i64 (((wordOf l).1 : Nat) : Int)), (8, .bool false), (7, .int .i64 (((wordOf l).1 : Nat) : Int)), (5, .slice (some ⟨g10, 0, none⟩) (ts2 ++ [endT l]).length k11), (6, .pointer (some ⟨b13, 0, none⟩)), (3, .slice (some ⟨g6, 0, none⟩) (ts2 ++ [endT l]).length k7), (4, .pointer (some ⟨b9, 0, none⟩)), (15, .bool false), (12, .bool false), (2, .bool false), (0, Str l)] ⟨rfl, rfl, rfl, rfl, rfl, rfl, rfl, rfl, rfl, rfl, rfl, rfl, trivial⟩ fun a hK => ?_
        refine wp_seq ?_
        refine region_go (lst := [0, 1, 2, 3, 4, 5, 6, 7, 8, 9, 10, 11, 12, 13, 14, 15, 16, 17, 18]) (by kernel_rfl) ?_
        refine stepM hK 36 3 (by kernel_rfl) (.inl rfl) rfl fun a hK => ?_
        refine stepM hK 37 5 (by kernel_rfl) (.inl rfl) rfl fun a hK => ?_
        refine stepRet hK hM 38 #[.slice (some ⟨g6, 0, none⟩) (ts2 ++ [endT l]).length k7, .slice (some ⟨g10, 0, none⟩) (ts2 ++ [endT l]).length k11] (.bool true) (by kernel_rfl) (run_callE en_cantileverkit_Tokens rfl rfl (by kernel_rfl)) (ret_eq (kit_Tokens _ (by rw [List.length_map]; exact ts_le (by assumption) (by omega)) (hM.sliceAt 3 rfl rfl) (hM.sliceAt 1 rfl rfl)) (v' := .bool true) (congrArg Value.bool (decide_eq_true rfl))) fun a w hK hM => ?_
        refine stepM hK 39 38 (by kernel_rfl) (.inl rfl) rfl fun a hK => ?_
        refine stepLoad hK 40 (.agg #[.int .i64 0, .int .i64 0]) (by kernel_rfl) rfl rfl ((hM.row 2 rfl).cells 0 2) (by kernel_rfl) fun a hK => ?_
        refine stepLoad hK 41 (.agg #[.int .i64 0, .int .i64 0]) (by kernel_rfl) rfl rfl ((hM.row 0 rfl).cells 0 2) (by kernel_rfl) fun a hK => ?_
        refine stepP hK 42 (.bool true) (by kernel_rfl) (okBool (run_eqlFlt rfl rfl rfl) (by decide)) fun a hK => ?_
        refine stepP hK 43 (.bool true) (by kernel_rfl) (by kernel_rfl) fun a hK => ?_
        refine stepM hK 44 43 (by kernel_rfl) (.inl rfl) rfl fun a hK => ?_
        refine stepM hK 45 7 (by kernel_rfl) (.inl rfl) rfl fun a hK => ?_
        refine stepM hK 46 9 (by kernel_rfl) (.inl rfl) rfl fun a hK => ?_
        refine stepP hK 47 (.bool true) (by kernel_rfl) (okBool (b := (decide (((((wordOf l).1 : Nat) : Int) : Int) = (((wordOf l).1 : Nat) : Int)))) (by kernel_rfl) (decide_eq_true rfl)) fun a hK => ?_
        refine stepP hK 48 (.bool true) (by kernel_rfl) (by kernel_rfl) fun a hK => ?_
        refine stepM hK 49 48 (by kernel_rfl) (.inl rfl) rfl fun a hK => ?_
        refine stepM hK 50 8 (by kernel_rfl) (.inl rfl) rfl fun a hK => ?_
        refine stepM hK 51 10 (by kernel_rfl) (.inl rfl) rfl fun a hK => ?_
        refine stepP hK 52 (.bool true) (by kernel_rfl) (by kernel_rfl) fun a hK => ?_
        refine stepP hK 53 (.bool true) (by kernel_rfl) (by kernel_rfl) fun a hK => ?_
        refine stepM hK 2 53 (by kernel_rfl) (.inr rfl) rfl fun a hK => ?_
        refine region_done hK [(2, .bool true), (10, .bool false), (9, .int .i64 (((wordOf l).1 : Nat) : Int)), (8, .bool false), (7, .int .i64 (((wordOf l).1 : Nat) : Int)), (5, .slice (some ⟨g10, 0, none⟩) (ts2 ++ [endT l]).length k11), (6, .pointer (some ⟨b13, 0, none⟩)), (3, .slice (some ⟨g6, 0, none⟩) (ts2 ++ [endT l]).length k7), (4, .pointer (some ⟨b9, 0, none⟩)), (15, .bool false), (12, .bool false), (0, Str l)] ⟨rfl, rfl, rfl, rfl, rfl, rfl, rfl, rfl, rfl, rfl, rfl, rfl, trivial⟩ fun a hK => ?_
        refine wp_ret ?_
        exact ret_t hK rfl (u := (.bool true)) rfl (⟨rfl, hM.below⟩)
end Go.Proofs.YtbcfggdifljacaaDoor
