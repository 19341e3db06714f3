/-
  Package lex: keywords, words, signs.
-/
import Derived.Test.YtbcfggdifljacaaDoorLpC
import Derived.Test.YtbcfggdifljacaaDoorMaps
namespace Go.Proofs.YtbcfggdifljacaaDoor
open Go Go.RowKit

/-- The map of keywords. -/
def kwEs : Array MapEntry := (setEs 0 keyL).toArray
def kwObj : Obj := .map kwEs 20
set_option maxRecDepth 100000 in
set_option maxHeartbeats 4000000 in
theorem lex_keywords  (w0 : World) : Calls Tryd.prog 23 #[] w0 (Gives w0 (fun b : Nat => .map (some b)) (fun b => [.obj b kwObj]) fun _ => True) := by
  refine calls_K (args := []) (n := 23) (env := []) Tryd.func23 rfl rfl rfl trivial fun a w hK hM => ?_
  refine wp_seq ?_
  refine region_go (lst := [0]) (by kernel_rfl) ?_
  refine stepP hK 0 (.map none) (by kernel_rfl) (by kernel_rfl) fun a hK => ?_
  refine region_done hK [(0, .map none)] ⟨rfl, trivial⟩ fun a hK => ?_
  refine wp_seq ?_
  refine region_go (lst := [0, 1, 2, 3, 4, 5, 6, 7, 8, 9, 10, 11, 12, 13, 14, 15, 16, 17, 18, 19, 20, 21, 22, 23, 24, 25, 26, 27, 28, 29, 30, 31, 32, 33, 34, 35, 36, 37, 38, 39, 40, 41, 42]) (by kernel_rfl) ?_
  refine stepObj hK hM 1 (.map #[] 0) (fun b => .map (some b)) (by kernel_rfl) (by kernel_rfl) fun b1 a w hK hM => ?_
  refine stepP hK 2 (.agg #[]) (by kernel_rfl) (by kernel_rfl) fun a hK => ?_
  refine stepSetObj hK hM 0 (.map #[⟨Str [115, 104, 97, 114, 101, 100], .agg #[], 0⟩] 1) (by kernel_rfl) rfl ((run_insS (kt := 9) (et := 62) (s := ⟨List.toArray [115, 104, 97, 114, 101, 100]⟩) (u := (.agg #[])) rfl rfl rfl rfl Tryd.underlying44 Tryd.underlying9 (hM.obj 0 rfl) (by kernel_rfl)).trans (by kernel_rfl)) fun w hM => ?_
  replace hM := hM.to [.obj b1 (.map #[⟨Str [115, 104, 97, 114, 101, 100], .agg #[], 0⟩] 1)] (by kernel_rfl)
  refine stepP hK 3 (.agg #[]) (by kernel_rfl) (by kernel_rfl) fun a hK => ?_
  refine stepSetObj hK hM 0 (.map #[⟨Str [115, 104, 97, 114, 101, 100], .agg #[], 0⟩, ⟨Str [112, 108, 97, 105, 110], .agg #[], 1⟩] 2) (by kernel_rfl) rfl ((run_insS (kt := 9) (et := 62) (s := ⟨List.toArray [112, 108, 97, 105, 110]⟩) (u := (.agg #[])) rfl rfl rfl rfl Tryd.underlying44 Tryd.underlying9 (hM.obj 0 rfl) (by kernel_rfl)).trans (by kernel_rfl)) fun w hM => ?_
  replace hM := hM.to [.obj b1 (.map #[⟨Str [115, 104, 97, 114, 101, 100], .agg #[], 0⟩, ⟨Str [112, 108, 97, 105, 110], .agg #[], 1⟩] 2)] (by kernel_rfl)
  refine stepP hK 4 (.agg #[]) (by kernel_rfl) (by kernel_rfl) fun a hK => ?_
  refine stepSetObj hK hM 0 (.map #[⟨Str [115, 104, 97, 114, 101, 100], .agg #[], 0⟩, ⟨Str [112, 108, 97, 105, 110], .agg #[], 1⟩, ⟨Str [116, 104, 114, 101, 97, 100], .agg #[], 2⟩] 3) (by kernel_rfl) rfl ((run_insS (kt := 9) (et := 62) (s := ⟨List.toArray [116, 104, 114, 101, 97, 100]⟩) (u := (.agg #[])) rfl rfl rfl rfl Tryd.underlying44 Tryd.underlying9 (hM.obj 0 rfl) (by kernel_rfl)).trans (by kernel_rfl)) fun w hM => ?_
  replace hM := hM.to [.obj b1 (.map #[⟨Str [115, 104, 97, 114, 101, 100], .agg #[], 0⟩, ⟨Str [112, 108, 97, 105, 110], .agg #[], 1⟩, ⟨Str [116, 104, 114, 101, 97, 100], .agg #[], 2⟩] 3)] (by kernel_rfl)
  refine stepP hK 5 (.agg #[]) (by kernel_rfl) (by kernel_rfl) fun a hK => ?_
  refine stepSetObj hK hM 0 (.map #[⟨Str [115, 104, 97, 114, 101, 100], .agg #[], 0⟩, ⟨Str [112, 108, 97, 105, 110], .agg #[], 1⟩, ⟨Str [116, 104, 114, 101, 97, 100], .agg #[], 2⟩, ⟨Str [105, 102], .agg #[], 3⟩] 4) (by kernel_rfl) rfl ((run_insS (kt := 9) (et := 62) (s := ⟨List.toArray [105, 102]⟩) (u := (.agg #[])) rfl rfl rfl rfl Tryd.underlying44 Tryd.underlying9 (hM.obj 0 rfl) (by kernel_rfl)).trans (by kernel_rfl)) fun w hM => ?_
  replace hM := hM.to [.obj b1 (.map #[⟨Str [115, 104, 97, 114, 101, 100], .agg #[], 0⟩, ⟨Str [112, 108, 97, 105, 110], .agg #[], 1⟩, ⟨Str [116, 104, 114, 101, 97, 100], .agg #[], 2⟩, ⟨Str [105, 102], .agg #[], 3⟩] 4)] (by kernel_rfl)
  refine stepP hK 6 (.agg #[]) (by kernel_rfl) (by kernel_rfl) fun a hK => ?_
  refine stepSetObj hK hM 0 (.map #[⟨Str [115, 104, 97, 114, 101, 100], .agg #[], 0⟩, ⟨Str [112, 108, 97, 105, 110], .agg #[], 1⟩, ⟨Str [116, 104, 114, 101, 97, 100], .agg #[], 2⟩, ⟨Str [105, 102], .agg #[], 3⟩, ⟨Str [101, 108, 115, 101], .agg #[], 4⟩] 5) (by kernel_rfl) rfl ((run_insS (kt := 9) (et := 62) (s := ⟨List.toArray [101, 108, 115, 101]⟩) (u := (.agg #[])) rfl rfl rfl rfl Tryd.underlying44 Tryd.underlying9 (hM.obj 0 rfl) (by kernel_rfl)).trans (by kernel_rfl)) fun w hM => ?_
  replace hM := hM.to [.obj b1 (.map #[⟨Str [115, 104, 97, 114, 101, 100], .agg #[], 0⟩, ⟨Str [112, 108, 97, 105, 110], .agg #[], 1⟩, ⟨Str [116, 104, 114, 101, 97, 100], .agg #[], 2⟩, ⟨Str [105, 102], .agg #[], 3⟩, ⟨Str [101, 108, 115, 101], .agg #[], 4⟩] 5)] (by kernel_rfl)
  refine stepP hK 7 (.agg #[]) (by kernel_rfl) (by kernel_rfl) fun a hK => ?_
  refine stepSetObj hK hM 0 (.map #[⟨Str [115, 104, 97, 114, 101, 100], .agg #[], 0⟩, ⟨Str [112, 108, 97, 105, 110], .agg #[], 1⟩, ⟨Str [116, 104, 114, 101, 97, 100], .agg #[], 2⟩, ⟨Str [105, 102], .agg #[], 3⟩, ⟨Str [101, 108, 115, 101], .agg #[], 4⟩, ⟨Str [119, 104, 105, 108, 101], .agg #[], 5⟩] 6) (by kernel_rfl) rfl ((run_insS (kt := 9) (et := 62) (s := ⟨List.toArray [119, 104, 105, 108, 101]⟩) (u := (.agg #[])) rfl rfl rfl rfl Tryd.underlying44 Tryd.underlying9 (hM.obj 0 rfl) (by kernel_rfl)).trans (by kernel_rfl)) fun w hM => ?_
  replace hM := hM.to [.obj b1 (.map #[⟨Str [115, 104, 97, 114, 101, 100], .agg #[], 0⟩, ⟨Str [112, 108, 97, 105, 110], .agg #[], 1⟩, ⟨Str [116, 104, 114, 101, 97, 100], .agg #[], 2⟩, ⟨Str [105, 102], .agg #[], 3⟩, ⟨Str [101, 108, 115, 101], .agg #[], 4⟩, ⟨Str [119, 104, 105, 108, 101], .agg #[], 5⟩] 6)] (by kernel_rfl)
  refine stepP hK 8 (.agg #[]) (by kernel_rfl) (by kernel_rfl) fun a hK => ?_
  refine stepSetObj hK hM 0 (.map #[⟨Str [115, 104, 97, 114, 101, 100], .agg #[], 0⟩, ⟨Str [112, 108, 97, 105, 110], .agg #[], 1⟩, ⟨Str [116, 104, 114, 101, 97, 100], .agg #[], 2⟩, ⟨Str [105, 102], .agg #[], 3⟩, ⟨Str [101, 108, 115, 101], .agg #[], 4⟩, ⟨Str [119, 104, 105, 108, 101], .agg #[], 5⟩, ⟨Str [108, 111, 97, 100], .agg #[], 6⟩] 7) (by kernel_rfl) rfl ((run_insS (kt := 9) (et := 62) (s := ⟨List.toArray [108, 111, 97, 100]⟩) (u := (.agg #[])) rfl rfl rfl rfl Tryd.underlying44 Tryd.underlying9 (hM.obj 0 rfl) (by kernel_rfl)).trans (by kernel_rfl)) fun w hM => ?_
  replace hM := hM.to [.obj b1 (.map #[⟨Str [115, 104, 97, 114, 101, 100], .agg #[], 0⟩, ⟨Str [112, 108, 97, 105, 110], .agg #[], 1⟩, ⟨Str [116, 104, 114, 101, 97, 100], .agg #[], 2⟩, ⟨Str [105, 102], .agg #[], 3⟩, ⟨Str [101, 108, 115, 101], .agg #[], 4⟩, ⟨Str [119, 104, 105, 108, 101], .agg #[], 5⟩, ⟨Str [108, 111, 97, 100], .agg #[], 6⟩] 7)] (by kernel_rfl)
  refine stepP hK 9 (.agg #[]) (by kernel_rfl) (by kernel_rfl) fun a hK => ?_
  refine stepSetObj hK hM 0 (.map #[⟨Str [115, 104, 97, 114, 101, 100], .agg #[], 0⟩, ⟨Str [112, 108, 97, 105, 110], .agg #[], 1⟩, ⟨Str [116, 104, 114, 101, 97, 100], .agg #[], 2⟩, ⟨Str [105, 102], .agg #[], 3⟩, ⟨Str [101, 108, 115, 101], .agg #[], 4⟩, ⟨Str [119, 104, 105, 108, 101], .agg #[], 5⟩, ⟨Str [108, 111, 97, 100], .agg #[], 6⟩, ⟨Str [115, 116, 111, 114, 101], .agg #[], 7⟩] 8) (by kernel_rfl) rfl ((run_insS (kt := 9) (et := 62) (s := ⟨List.toArray [115, 116, 111, 114, 101]⟩) (u := (.agg #[])) rfl rfl rfl rfl Tryd.underlying44 Tryd.underlying9 (hM.obj 0 rfl) (by kernel_rfl)).trans (by kernel_rfl)) fun w hM => ?_
  replace hM := hM.to [.obj b1 (.map #[⟨Str [115, 104, 97, 114, 101, 100], .agg #[], 0⟩, ⟨Str [112, 108, 97, 105, 110], .agg #[], 1⟩, ⟨Str [116, 104, 114, 101, 97, 100], .agg #[], 2⟩, ⟨Str [105, 102], .agg #[], 3⟩, ⟨Str [101, 108, 115, 101], .agg #[], 4⟩, ⟨Str [119, 104, 105, 108, 101], .agg #[], 5⟩, ⟨Str [108, 111, 97, 100], .agg #[], 6⟩, ⟨Str [115, 116, 111, 114, 101], .agg #[], 7⟩] 8)] (by kernel_rfl)
  refine stepP hK 10 (.agg #[]) (by kernel_rfl) (by kernel_rfl) fun a hK => ?_
  refine stepSetObj hK hM 0 (.map #[⟨Str [115, 104, 97, 114, 101, 100], .agg #[], 0⟩, ⟨Str [112, 108, 97, 105, 110], .agg #[], 1⟩, ⟨Str [116, 104, 114, 101, 97, 100], .agg #[], 2⟩, ⟨Str [105, 102], .agg #[], 3⟩, ⟨Str [101, 108, 115, 101], .agg #[], 4⟩, ⟨Str [119, 104, 105, 108, 101], .agg #[], 5⟩, ⟨Str [108, 111, 97, 100], .agg #[], 6⟩, ⟨Str [115, 116, 111, 114, 101], .agg #[], 7⟩, ⟨Str [99, 97, 115], .agg #[], 8⟩] 9) (by kernel_rfl) rfl ((run_insS (kt := 9) (et := 62) (s := ⟨List.toArray [99, 97, 115]⟩) (u := (.agg #[])) rfl rfl rfl rfl Tryd.underlying44 Tryd.underlying9 (hM.obj 0 rfl) (by kernel_rfl)).trans (by kernel_rfl)) fun w hM => ?_
  replace hM := hM.to [.obj b1 (.map #[⟨Str [115, 104, 97, 114, 101, 100], .agg #[], 0⟩, ⟨Str [112, 108, 97, 105, 110], .agg #[], 1⟩, ⟨Str [116, 104, 114, 101, 97, 100], .agg #[], 2⟩, ⟨Str [105, 102], .agg #[], 3⟩, ⟨Str [101, 108, 115, 101], .agg #[], 4⟩, ⟨Str [119, 104, 105, 108, 101], .agg #[], 5⟩, ⟨Str [108, 111, 97, 100], .agg #[], 6⟩, ⟨Str [115, 116, 111, 114, 101], .agg #[], 7⟩, ⟨Str [99, 97, 115], .agg #[], 8⟩] 9)] (by kernel_rfl)
  refine stepP hK 11 (.agg #[]) (by kernel_rfl) (by kernel_rfl) fun a hK => ?_
  refine stepSetObj hK hM 0 (.map #[⟨Str [115, 104, 97, 114, 101, 100], .agg #[], 0⟩, ⟨Str [112, 108, 97, 105, 110], .agg #[], 1⟩, ⟨Str [116, 104, 114, 101, 97, 100], .agg #[], 2⟩, ⟨Str [105, 102], .agg #[], 3⟩, ⟨Str [101, 108, 115, 101], .agg #[], 4⟩, ⟨Str [119, 104, 105, 108, 101], .agg #[], 5⟩, ⟨Str [108, 111, 97, 100], .agg #[], 6⟩, ⟨Str [115, 116, 111, 114, 101], .agg #[], 7⟩, ⟨Str [99, 97, 115], .agg #[], 8⟩, ⟨Str [97, 100, 100], .agg #[], 9⟩] 10) (by kernel_rfl) rfl ((run_insS (kt := 9) (et := 62) (s := ⟨List.toArray [97, 100, 100]⟩) (u := (.agg #[])) rfl rfl rfl rfl Tryd.underlying44 Tryd.underlying9 (hM.obj 0 rfl) (by kernel_rfl)).trans (by kernel_rfl)) fun w hM => ?_
  replace hM := hM.to [.obj b1 (.map #[⟨Str [115, 104, 97, 114, 101, 100], .agg #[], 0⟩, ⟨Str [112, 108, 97, 105, 110], .agg #[], 1⟩, ⟨Str [116, 104, 114, 101, 97, 100], .agg #[], 2⟩, ⟨Str [105, 102], .agg #[], 3⟩, ⟨Str [101, 108, 115, 101], .agg #[], 4⟩, ⟨Str [119, 104, 105, 108, 101], .agg #[], 5⟩, ⟨Str [108, 111, 97, 100], .agg #[], 6⟩, ⟨Str [115, 116, 111, 114, 101], .agg #[], 7⟩, ⟨Str [99, 97, 115], .agg #[], 8⟩, ⟨Str [97, 100, 100], .agg #[], 9⟩] 10)] (by kernel_rfl)
  refine stepP hK 12 (.agg #[]) (by kernel_rfl) (by kernel_rfl) fun a hK => ?_
  refine stepSetObj hK hM 0 (.map #[⟨Str [115, 104, 97, 114, 101, 100], .agg #[], 0⟩, ⟨Str [112, 108, 97, 105, 110], .agg #[], 1⟩, ⟨Str [116, 104, 114, 101, 97, 100], .agg #[], 2⟩, ⟨Str [105, 102], .agg #[], 3⟩, ⟨Str [101, 108, 115, 101], .agg #[], 4⟩, ⟨Str [119, 104, 105, 108, 101], .agg #[], 5⟩, ⟨Str [108, 111, 97, 100], .agg #[], 6⟩, ⟨Str [115, 116, 111, 114, 101], .agg #[], 7⟩, ⟨Str [99, 97, 115], .agg #[], 8⟩, ⟨Str [97, 100, 100], .agg #[], 9⟩, ⟨Str [115, 119, 97, 112], .agg #[], 10⟩] 11) (by kernel_rfl) rfl ((run_insS (kt := 9) (et := 62) (s := ⟨List.toArray [115, 119, 97, 112]⟩) (u := (.agg #[])) rfl rfl rfl rfl Tryd.underlying44 Tryd.underlying9 (hM.obj 0 rfl) (by kernel_rfl)).trans (by kernel_rfl)) fun w hM => ?_
  replace hM := hM.to [.obj b1 (.map #[⟨Str [115, 104, 97, 114, 101, 100], .agg #[], 0⟩, ⟨Str [112, 108, 97, 105, 110], .agg #[], 1⟩, ⟨Str [116, 104, 114, 101, 97, 100], .agg #[], 2⟩, ⟨Str [105, 102], .agg #[], 3⟩, ⟨Str [101, 108, 115, 101], .agg #[], 4⟩, ⟨Str [119, 104, 105, 108, 101], .agg #[], 5⟩, ⟨Str [108, 111, 97, 100], .agg #[], 6⟩, ⟨Str [115, 116, 111, 114, 101], .agg #[], 7⟩, ⟨Str [99, 97, 115], .agg #[], 8⟩, ⟨Str [97, 100, 100], .agg #[], 9⟩, ⟨Str [115, 119, 97, 112], .agg #[], 10⟩] 11)] (by kernel_rfl)
  refine stepP hK 13 (.agg #[]) (by kernel_rfl) (by kernel_rfl) fun a hK => ?_
  refine stepSetObj hK hM 0 (.map #[⟨Str [115, 104, 97, 114, 101, 100], .agg #[], 0⟩, ⟨Str [112, 108, 97, 105, 110], .agg #[], 1⟩, ⟨Str [116, 104, 114, 101, 97, 100], .agg #[], 2⟩, ⟨Str [105, 102], .agg #[], 3⟩, ⟨Str [101, 108, 115, 101], .agg #[], 4⟩, ⟨Str [119, 104, 105, 108, 101], .agg #[], 5⟩, ⟨Str [108, 111, 97, 100], .agg #[], 6⟩, ⟨Str [115, 116, 111, 114, 101], .agg #[], 7⟩, ⟨Str [99, 97, 115], .agg #[], 8⟩, ⟨Str [97, 100, 100], .agg #[], 9⟩, ⟨Str [115, 119, 97, 112], .agg #[], 10⟩, ⟨Str [102, 101, 110, 99, 101], .agg #[], 11⟩] 12) (by kernel_rfl) rfl ((run_insS (kt := 9) (et := 62) (s := ⟨List.toArray [102, 101, 110, 99, 101]⟩) (u := (.agg #[])) rfl rfl rfl rfl Tryd.underlying44 Tryd.underlying9 (hM.obj 0 rfl) (by kernel_rfl)).trans (by kernel_rfl)) fun w hM => ?_
  replace hM := hM.to [.obj b1 (.map #[⟨Str [115, 104, 97, 114, 101, 100], .agg #[], 0⟩, ⟨Str [112, 108, 97, 105, 110], .agg #[], 1⟩, ⟨Str [116, 104, 114, 101, 97, 100], .agg #[], 2⟩, ⟨Str [105, 102], .agg #[], 3⟩, ⟨Str [101, 108, 115, 101], .agg #[], 4⟩, ⟨Str [119, 104, 105, 108, 101], .agg #[], 5⟩, ⟨Str [108, 111, 97, 100], .agg #[], 6⟩, ⟨Str [115, 116, 111, 114, 101], .agg #[], 7⟩, ⟨Str [99, 97, 115], .agg #[], 8⟩, ⟨Str [97, 100, 100], .agg #[], 9⟩, ⟨Str [115, 119, 97, 112], .agg #[], 10⟩, ⟨Str [102, 101, 110, 99, 101], .agg #[], 11⟩] 12)] (by kernel_rfl)
  refine stepP hK 14 (.agg #[]) (by kernel_rfl) (by kernel_rfl) fun a hK => ?_
  refine stepSetObj hK hM 0 (.map #[⟨Str [115, 104, 97, 114, 101, 100], .agg #[], 0⟩, ⟨Str [112, 108, 97, 105, 110], .agg #[], 1⟩, ⟨Str [116, 104, 114, 101, 97, 100], .agg #[], 2⟩, ⟨Str [105, 102], .agg #[], 3⟩, ⟨Str [101, 108, 115, 101], .agg #[], 4⟩, ⟨Str [119, 104, 105, 108, 101], .agg #[], 5⟩, ⟨Str [108, 111, 97, 100], .agg #[], 6⟩, ⟨Str [115, 116, 111, 114, 101], .agg #[], 7⟩, ⟨Str [99, 97, 115], .agg #[], 8⟩, ⟨Str [97, 100, 100], .agg #[], 9⟩, ⟨Str [115, 119, 97, 112], .agg #[], 10⟩, ⟨Str [102, 101, 110, 99, 101], .agg #[], 11⟩, ⟨Str [97, 115, 115, 117, 109, 101], .agg #[], 12⟩] 13) (by kernel_rfl) rfl ((run_insS (kt := 9) (et := 62) (s := ⟨List.toArray [97, 115, 115, 117, 109, 101]⟩) (u := (.agg #[])) rfl rfl rfl rfl Tryd.underlying44 Tryd.underlying9 (hM.obj 0 rfl) (by kernel_rfl)).trans (by kernel_rfl)) fun w hM => ?_
  replace hM := hM.to [.obj b1 (.map #[⟨Str [115, 104, 97, 114, 101, 100], .agg #[], 0⟩, ⟨Str [112, 108, 97, 105, 110], .agg #[], 1⟩, ⟨Str [116, 104, 114, 101, 97, 100], .agg #[], 2⟩, ⟨Str [105, 102], .agg #[], 3⟩, ⟨Str [101, 108, 115, 101], .agg #[], 4⟩, ⟨Str [119, 104, 105, 108, 101], .agg #[], 5⟩, ⟨Str [108, 111, 97, 100], .agg #[], 6⟩, ⟨Str [115, 116, 111, 114, 101], .agg #[], 7⟩, ⟨Str [99, 97, 115], .agg #[], 8⟩, ⟨Str [97, 100, 100], .agg #[], 9⟩, ⟨Str [115, 119, 97, 112], .agg #[], 10⟩, ⟨Str [102, 101, 110, 99, 101], .agg #[], 11⟩, ⟨Str [97, 115, 115, 117, 109, 101], .agg #[], 12⟩] 13)] (by kernel_rfl)
  refine stepP hK 15 (.agg #[]) (by kernel_rfl) (by kernel_rfl) fun a hK => ?_
  refine stepSetObj hK hM 0 (.map #[⟨Str [115, 104, 97, 114, 101, 100], .agg #[], 0⟩, ⟨Str [112, 108, 97, 105, 110], .agg #[], 1⟩, ⟨Str [116, 104, 114, 101, 97, 100], .agg #[], 2⟩, ⟨Str [105, 102], .agg #[], 3⟩, ⟨Str [101, 108, 115, 101], .agg #[], 4⟩, ⟨Str [119, 104, 105, 108, 101], .agg #[], 5⟩, ⟨Str [108, 111, 97, 100], .agg #[], 6⟩, ⟨Str [115, 116, 111, 114, 101], .agg #[], 7⟩, ⟨Str [99, 97, 115], .agg #[], 8⟩, ⟨Str [97, 100, 100], .agg #[], 9⟩, ⟨Str [115, 119, 97, 112], .agg #[], 10⟩, ⟨Str [102, 101, 110, 99, 101], .agg #[], 11⟩, ⟨Str [97, 115, 115, 117, 109, 101], .agg #[], 12⟩, ⟨Str [97, 115, 115, 101, 114, 116], .agg #[], 13⟩] 14) (by kernel_rfl) rfl ((run_insS (kt := 9) (et := 62) (s := ⟨List.toArray [97, 115, 115, 101, 114, 116]⟩) (u := (.agg #[])) rfl rfl rfl rfl Tryd.underlying44 Tryd.underlying9 (hM.obj 0 rfl) (by kernel_rfl)).trans (by kernel_rfl)) fun w hM => ?_
  replace hM := hM.to [.obj b1 (.map #[⟨Str [115, 104, 97, 114, 101, 100], .agg #[], 0⟩, ⟨Str [112, 108, 97, 105, 110], .agg #[], 1⟩, ⟨Str [116, 104, 114, 101, 97, 100], .agg #[], 2⟩, ⟨Str [105, 102], .agg #[], 3⟩, ⟨Str [101, 108, 115, 101], .agg #[], 4⟩, ⟨Str [119, 104, 105, 108, 101], .agg #[], 5⟩, ⟨Str [108, 111, 97, 100], .agg #[], 6⟩, ⟨Str [115, 116, 111, 114, 101], .agg #[], 7⟩, ⟨Str [99, 97, 115], .agg #[], 8⟩, ⟨Str [97, 100, 100], .agg #[], 9⟩, ⟨Str [115, 119, 97, 112], .agg #[], 10⟩, ⟨Str [102, 101, 110, 99, 101], .agg #[], 11⟩, ⟨Str [97, 115, 115, 117, 109, 101], .agg #[], 12⟩, ⟨Str [97, 115, 115, 101, 114, 116], .agg #[], 13⟩] 14)] (by kernel_rfl)
  refine stepP hK 16 (.agg #[]) (by kernel_rfl) (by kernel_rfl) fun a hK => ?_
  refine stepSetObj hK hM 0 (.map #[⟨Str [115, 104, 97, 114, 101, 100], .agg #[], 0⟩, ⟨Str [112, 108, 97, 105, 110], .agg #[], 1⟩, ⟨Str [116, 104, 114, 101, 97, 100], .agg #[], 2⟩, ⟨Str [105, 102], .agg #[], 3⟩, ⟨Str [101, 108, 115, 101], .agg #[], 4⟩, ⟨Str [119, 104, 105, 108, 101], .agg #[], 5⟩, ⟨Str [108, 111, 97, 100], .agg #[], 6⟩, ⟨Str [115, 116, 111, 114, 101], .agg #[], 7⟩, ⟨Str [99, 97, 115], .agg #[], 8⟩, ⟨Str [97, 100, 100], .agg #[], 9⟩, ⟨Str [115, 119, 97, 112], .agg #[], 10⟩, ⟨Str [102, 101, 110, 99, 101], .agg #[], 11⟩, ⟨Str [97, 115, 115, 117, 109, 101], .agg #[], 12⟩, ⟨Str [97, 115, 115, 101, 114, 116], .agg #[], 13⟩, ⟨Str [110, 97], .agg #[], 14⟩] 15) (by kernel_rfl) rfl ((run_insS (kt := 9) (et := 62) (s := ⟨List.toArray [110, 97]⟩) (u := (.agg #[])) rfl rfl rfl rfl Tryd.underlying44 Tryd.underlying9 (hM.obj 0 rfl) (by kernel_rfl)).trans (by kernel_rfl)) fun w hM => ?_
  replace hM := hM.to [.obj b1 (.map #[⟨Str [115, 104, 97, 114, 101, 100], .agg #[], 0⟩, ⟨Str [112, 108, 97, 105, 110], .agg #[], 1⟩, ⟨Str [116, 104, 114, 101, 97, 100], .agg #[], 2⟩, ⟨Str [105, 102], .agg #[], 3⟩, ⟨Str [101, 108, 115, 101], .agg #[], 4⟩, ⟨Str [119, 104, 105, 108, 101], .agg #[], 5⟩, ⟨Str [108, 111, 97, 100], .agg #[], 6⟩, ⟨Str [115, 116, 111, 114, 101], .agg #[], 7⟩, ⟨Str [99, 97, 115], .agg #[], 8⟩, ⟨Str [97, 100, 100], .agg #[], 9⟩, ⟨Str [115, 119, 97, 112], .agg #[], 10⟩, ⟨Str [102, 101, 110, 99, 101], .agg #[], 11⟩, ⟨Str [97, 115, 115, 117, 109, 101], .agg #[], 12⟩, ⟨Str [97, 115, 115, 101, 114, 116], .agg #[], 13⟩, ⟨Str [110, 97], .agg #[], 14⟩] 15)] (by kernel_rfl)
  refine stepP hK 17 (.agg #[]) (by kernel_rfl) (by kernel_rfl) fun a hK => ?_
  refine stepSetObj hK hM 0 (.map #[⟨Str [115, 104, 97, 114, 101, 100], .agg #[], 0⟩, ⟨Str [112, 108, 97, 105, 110], .agg #[], 1⟩, ⟨Str [116, 104, 114, 101, 97, 100], .agg #[], 2⟩, ⟨Str [105, 102], .agg #[], 3⟩, ⟨Str [101, 108, 115, 101], .agg #[], 4⟩, ⟨Str [119, 104, 105, 108, 101], .agg #[], 5⟩, ⟨Str [108, 111, 97, 100], .agg #[], 6⟩, ⟨Str [115, 116, 111, 114, 101], .agg #[], 7⟩, ⟨Str [99, 97, 115], .agg #[], 8⟩, ⟨Str [97, 100, 100], .agg #[], 9⟩, ⟨Str [115, 119, 97, 112], .agg #[], 10⟩, ⟨Str [102, 101, 110, 99, 101], .agg #[], 11⟩, ⟨Str [97, 115, 115, 117, 109, 101], .agg #[], 12⟩, ⟨Str [97, 115, 115, 101, 114, 116], .agg #[], 13⟩, ⟨Str [110, 97], .agg #[], 14⟩, ⟨Str [114, 108, 120], .agg #[], 15⟩] 16) (by kernel_rfl) rfl ((run_insS (kt := 9) (et := 62) (s := ⟨List.toArray [114, 108, 120]⟩) (u := (.agg #[])) rfl rfl rfl rfl Tryd.underlying44 Tryd.underlying9 (hM.obj 0 rfl) (by kernel_rfl)).trans (by kernel_rfl)) fun w hM => ?_
  replace hM := hM.to [.obj b1 (.map #[⟨Str [115, 104, 97, 114, 101, 100], .agg #[], 0⟩, ⟨Str [112, 108, 97, 105, 110], .agg #[], 1⟩, ⟨Str [116, 104, 114, 101, 97, 100], .agg #[], 2⟩, ⟨Str [105, 102], .agg #[], 3⟩, ⟨Str [101, 108, 115, 101], .agg #[], 4⟩, ⟨Str [119, 104, 105, 108, 101], .agg #[], 5⟩, ⟨Str [108, 111, 97, 100], .agg #[], 6⟩, ⟨Str [115, 116, 111, 114, 101], .agg #[], 7⟩, ⟨Str [99, 97, 115], .agg #[], 8⟩, ⟨Str [97, 100, 100], .agg #[], 9⟩, ⟨Str [115, 119, 97, 112], .agg #[], 10⟩, ⟨Str [102, 101, 110, 99, 101], .agg #[], 11⟩, ⟨Str [97, 115, 115, 117, 109, 101], .agg #[], 12⟩, ⟨Str [97, 115, 115, 101, 114, 116], .agg #[], 13⟩, ⟨Str [110, 97], .agg #[], 14⟩, ⟨Str [114, 108, 120], .agg #[], 15⟩] 16)] (by kernel_rfl)
  refine stepP hK 18 (.agg #[]) (by kernel_rfl) (by kernel_rfl) fun a hK => ?_
  refine stepSetObj hK hM 0 (.map #[⟨Str [115, 104, 97, 114, 101, 100], .agg #[], 0⟩, ⟨Str [112, 108, 97, 105, 110], .agg #[], 1⟩, ⟨Str [116, 104, 114, 101, 97, 100], .agg #[], 2⟩, ⟨Str [105, 102], .agg #[], 3⟩, ⟨Str [101, 108, 115, 101], .agg #[], 4⟩, ⟨Str [119, 104, 105, 108, 101], .agg #[], 5⟩, ⟨Str [108, 111, 97, 100], .agg #[], 6⟩, ⟨Str [115, 116, 111, 114, 101], .agg #[], 7⟩, ⟨Str [99, 97, 115], .agg #[], 8⟩, ⟨Str [97, 100, 100], .agg #[], 9⟩, ⟨Str [115, 119, 97, 112], .agg #[], 10⟩, ⟨Str [102, 101, 110, 99, 101], .agg #[], 11⟩, ⟨Str [97, 115, 115, 117, 109, 101], .agg #[], 12⟩, ⟨Str [97, 115, 115, 101, 114, 116], .agg #[], 13⟩, ⟨Str [110, 97], .agg #[], 14⟩, ⟨Str [114, 108, 120], .agg #[], 15⟩, ⟨Str [97, 99, 113], .agg #[], 16⟩] 17) (by kernel_rfl) rfl ((run_insS (kt := 9) (et := 62) (s := ⟨List.toArray [97, 99, 113]⟩) (u := (.agg #[])) rfl rfl rfl rfl Tryd.underlying44 Tryd.underlying9 (hM.obj 0 rfl) (by kernel_rfl)).trans (by kernel_rfl)) fun w hM => ?_
  replace hM := hM.to [.obj b1 (.map #[⟨Str [115, 104, 97, 114, 101, 100], .agg #[], 0⟩, ⟨Str [112, 108, 97, 105, 110], .agg #[], 1⟩, ⟨Str [116, 104, 114, 101, 97, 100], .agg #[], 2⟩, ⟨Str [105, 102], .agg #[], 3⟩, ⟨Str [101, 108, 115, 101], .agg #[], 4⟩, ⟨Str [119, 104, 105, 108, 101], .agg #[], 5⟩, ⟨Str [108, 111, 97, 100], .agg #[], 6⟩, ⟨Str [115, 116, 111, 114, 101], .agg #[], 7⟩, ⟨Str [99, 97, 115], .agg #[], 8⟩, ⟨Str [97, 100, 100], .agg #[], 9⟩, ⟨Str [115, 119, 97, 112], .agg #[], 10⟩, ⟨Str [102, 101, 110, 99, 101], .agg #[], 11⟩, ⟨Str [97, 115, 115, 117, 109, 101], .agg #[], 12⟩, ⟨Str [97, 115, 115, 101, 114, 116], .agg #[], 13⟩, ⟨Str [110, 97], .agg #[], 14⟩, ⟨Str [114, 108, 120], .agg #[], 15⟩, ⟨Str [97, 99, 113], .agg #[], 16⟩] 17)] (by kernel_rfl)
  refine stepP hK 19 (.agg #[]) (by kernel_rfl) (by kernel_rfl) fun a hK => ?_
  refine stepSetObj hK hM 0 (.map #[⟨Str [115, 104, 97, 114, 101, 100], .agg #[], 0⟩, ⟨Str [112, 108, 97, 105, 110], .agg #[], 1⟩, ⟨Str [116, 104, 114, 101, 97, 100], .agg #[], 2⟩, ⟨Str [105, 102], .agg #[], 3⟩, ⟨Str [101, 108, 115, 101], .agg #[], 4⟩, ⟨Str [119, 104, 105, 108, 101], .agg #[], 5⟩, ⟨Str [108, 111, 97, 100], .agg #[], 6⟩, ⟨Str [115, 116, 111, 114, 101], .agg #[], 7⟩, ⟨Str [99, 97, 115], .agg #[], 8⟩, ⟨Str [97, 100, 100], .agg #[], 9⟩, ⟨Str [115, 119, 97, 112], .agg #[], 10⟩, ⟨Str [102, 101, 110, 99, 101], .agg #[], 11⟩, ⟨Str [97, 115, 115, 117, 109, 101], .agg #[], 12⟩, ⟨Str [97, 115, 115, 101, 114, 116], .agg #[], 13⟩, ⟨Str [110, 97], .agg #[], 14⟩, ⟨Str [114, 108, 120], .agg #[], 15⟩, ⟨Str [97, 99, 113], .agg #[], 16⟩, ⟨Str [114, 101, 108], .agg #[], 17⟩] 18) (by kernel_rfl) rfl ((run_insS (kt := 9) (et := 62) (s := ⟨List.toArray [114, 101, 108]⟩) (u := (.agg #[])) rfl rfl rfl rfl Tryd.underlying44 Tryd.underlying9 (hM.obj 0 rfl) (by kernel_rfl)).trans (by kernel_rfl)) fun w hM => ?_
  replace hM := hM.to [.obj b1 (.map #[⟨Str [115, 104, 97, 114, 101, 100], .agg #[], 0⟩, ⟨Str [112, 108, 97, 105, 110], .agg #[], 1⟩, ⟨Str [116, 104, 114, 101, 97, 100], .agg #[], 2⟩, ⟨Str [105, 102], .agg #[], 3⟩, ⟨Str [101, 108, 115, 101], .agg #[], 4⟩, ⟨Str [119, 104, 105, 108, 101], .agg #[], 5⟩, ⟨Str [108, 111, 97, 100], .agg #[], 6⟩, ⟨Str [115, 116, 111, 114, 101], .agg #[], 7⟩, ⟨Str [99, 97, 115], .agg #[], 8⟩, ⟨Str [97, 100, 100], .agg #[], 9⟩, ⟨Str [115, 119, 97, 112], .agg #[], 10⟩, ⟨Str [102, 101, 110, 99, 101], .agg #[], 11⟩, ⟨Str [97, 115, 115, 117, 109, 101], .agg #[], 12⟩, ⟨Str [97, 115, 115, 101, 114, 116], .agg #[], 13⟩, ⟨Str [110, 97], .agg #[], 14⟩, ⟨Str [114, 108, 120], .agg #[], 15⟩, ⟨Str [97, 99, 113], .agg #[], 16⟩, ⟨Str [114, 101, 108], .agg #[], 17⟩] 18)] (by kernel_rfl)
  refine stepP hK 20 (.agg #[]) (by kernel_rfl) (by kernel_rfl) fun a hK => ?_
  refine stepSetObj hK hM 0 (.map #[⟨Str [115, 104, 97, 114, 101, 100], .agg #[], 0⟩, ⟨Str [112, 108, 97, 105, 110], .agg #[], 1⟩, ⟨Str [116, 104, 114, 101, 97, 100], .agg #[], 2⟩, ⟨Str [105, 102], .agg #[], 3⟩, ⟨Str [101, 108, 115, 101], .agg #[], 4⟩, ⟨Str [119, 104, 105, 108, 101], .agg #[], 5⟩, ⟨Str [108, 111, 97, 100], .agg #[], 6⟩, ⟨Str [115, 116, 111, 114, 101], .agg #[], 7⟩, ⟨Str [99, 97, 115], .agg #[], 8⟩, ⟨Str [97, 100, 100], .agg #[], 9⟩, ⟨Str [115, 119, 97, 112], .agg #[], 10⟩, ⟨Str [102, 101, 110, 99, 101], .agg #[], 11⟩, ⟨Str [97, 115, 115, 117, 109, 101], .agg #[], 12⟩, ⟨Str [97, 115, 115, 101, 114, 116], .agg #[], 13⟩, ⟨Str [110, 97], .agg #[], 14⟩, ⟨Str [114, 108, 120], .agg #[], 15⟩, ⟨Str [97, 99, 113], .agg #[], 16⟩, ⟨Str [114, 101, 108], .agg #[], 17⟩, ⟨Str [97, 114], .agg #[], 18⟩] 19) (by kernel_rfl) rfl ((run_insS (kt := 9) (et := 62) (s := ⟨List.toArray [97, 114]⟩) (u := (.agg #[])) rfl rfl rfl rfl Tryd.underlying44 Tryd.underlying9 (hM.obj 0 rfl) (by kernel_rfl)).trans (by kernel_rfl)) fun w hM => ?_
  replace hM := hM.to [.obj b1 (.map #[⟨Str [115, 104, 97, 114, 101, 100], .agg #[], 0⟩, ⟨Str [112, 108, 97, 105, 110], .agg #[], 1⟩, ⟨Str [116, 104, 114, 101, 97, 100], .agg #[], 2⟩, ⟨Str [105, 102], .agg #[], 3⟩, ⟨Str [101, 108, 115, 101], .agg #[], 4⟩, ⟨Str [119, 104, 105, 108, 101], .agg #[], 5⟩, ⟨Str [108, 111, 97, 100], .agg #[], 6⟩, ⟨Str [115, 116, 111, 114, 101], .agg #[], 7⟩, ⟨Str [99, 97, 115], .agg #[], 8⟩, ⟨Str [97, 100, 100], .agg #[], 9⟩, ⟨Str [115, 119, 97, 112], .agg #[], 10⟩, ⟨Str [102, 101, 110, 99, 101], .agg #[], 11⟩, ⟨Str [97, 115, 115, 117, 109, 101], .agg #[], 12⟩, ⟨Str [97, 115, 115, 101, 114, 116], .agg #[], 13⟩, ⟨Str [110, 97], .agg #[], 14⟩, ⟨Str [114, 108, 120], .agg #[], 15⟩, ⟨Str [97, 99, 113], .agg #[], 16⟩, ⟨Str [114, 101, 108], .agg #[], 17⟩, ⟨Str [97, 114], .agg #[], 18⟩] 19)] (by kernel_rfl)
  refine stepP hK 21 (.agg #[]) (by kernel_rfl) (by kernel_rfl) fun a hK => ?_
  refine stepSetObj hK hM 0 (.map #[⟨Str [115, 104, 97, 114, 101, 100], .agg #[], 0⟩, ⟨Str [112, 108, 97, 105, 110], .agg #[], 1⟩, ⟨Str [116, 104, 114, 101, 97, 100], .agg #[], 2⟩, ⟨Str [105, 102], .agg #[], 3⟩, ⟨Str [101, 108, 115, 101], .agg #[], 4⟩, ⟨Str [119, 104, 105, 108, 101], .agg #[], 5⟩, ⟨Str [108, 111, 97, 100], .agg #[], 6⟩, ⟨Str [115, 116, 111, 114, 101], .agg #[], 7⟩, ⟨Str [99, 97, 115], .agg #[], 8⟩, ⟨Str [97, 100, 100], .agg #[], 9⟩, ⟨Str [115, 119, 97, 112], .agg #[], 10⟩, ⟨Str [102, 101, 110, 99, 101], .agg #[], 11⟩, ⟨Str [97, 115, 115, 117, 109, 101], .agg #[], 12⟩, ⟨Str [97, 115, 115, 101, 114, 116], .agg #[], 13⟩, ⟨Str [110, 97], .agg #[], 14⟩, ⟨Str [114, 108, 120], .agg #[], 15⟩, ⟨Str [97, 99, 113], .agg #[], 16⟩, ⟨Str [114, 101, 108], .agg #[], 17⟩, ⟨Str [97, 114], .agg #[], 18⟩, ⟨Str [115, 99], .agg #[], 19⟩] 20) (by kernel_rfl) rfl ((run_insS (kt := 9) (et := 62) (s := ⟨List.toArray [115, 99]⟩) (u := (.agg #[])) rfl rfl rfl rfl Tryd.underlying44 Tryd.underlying9 (hM.obj 0 rfl) (by kernel_rfl)).trans (by kernel_rfl)) fun w hM => ?_
  replace hM := hM.to [.obj b1 (.map #[⟨Str [115, 104, 97, 114, 101, 100], .agg #[], 0⟩, ⟨Str [112, 108, 97, 105, 110], .agg #[], 1⟩, ⟨Str [116, 104, 114, 101, 97, 100], .agg #[], 2⟩, ⟨Str [105, 102], .agg #[], 3⟩, ⟨Str [101, 108, 115, 101], .agg #[], 4⟩, ⟨Str [119, 104, 105, 108, 101], .agg #[], 5⟩, ⟨Str [108, 111, 97, 100], .agg #[], 6⟩, ⟨Str [115, 116, 111, 114, 101], .agg #[], 7⟩, ⟨Str [99, 97, 115], .agg #[], 8⟩, ⟨Str [97, 100, 100], .agg #[], 9⟩, ⟨Str [115, 119, 97, 112], .agg #[], 10⟩, ⟨Str [102, 101, 110, 99, 101], .agg #[], 11⟩, ⟨Str [97, 115, 115, 117, 109, 101], .agg #[], 12⟩, ⟨Str [97, 115, 115, 101, 114, 116], .agg #[], 13⟩, ⟨Str [110, 97], .agg #[], 14⟩, ⟨Str [114, 108, 120], .agg #[], 15⟩, ⟨Str [97, 99, 113], .agg #[], 16⟩, ⟨Str [114, 101, 108], .agg #[], 17⟩, ⟨Str [97, 114], .agg #[], 18⟩, ⟨Str [115, 99], .agg #[], 19⟩] 20)] (by kernel_rfl)
  refine stepM hK 22 1 (by kernel_rfl) (.inl rfl) rfl fun a hK => ?_
  refine stepM hK 0 22 (by kernel_rfl) (.inr rfl) rfl fun a hK => ?_
  refine region_done hK [(0, .map (some b1))] ⟨rfl, trivial⟩ fun a hK => ?_
  refine wp_ret ?_
  replace hM := hM.to [.obj b1 kwObj] (by kernel_rfl)
  exact ret_t hK rfl (u := (.map (some b1))) rfl (⟨b1, rfl, hM, trivial⟩)
theorem en_lex_keywords : Enters Tryd.prog 23 := enters_of Tryd.func23 (by kernel_rfl) rfl
theorem kw_kind_true {l : List UInt8} (h : keyL.contains l = true) : 2 = kindOf l := by unfold kindOf; rw [if_pos (by simpa using h)]
theorem kw_kind_false {l : List UInt8} (h : keyL.contains l = false) : 1 = kindOf l := by unfold kindOf; rw [if_neg (by simpa using h)]
set_option maxRecDepth 100000 in
set_option maxHeartbeats 4000000 in
theorem lex_wordKind (l : List UInt8) (b : Nat) (w0 : World) (hb1 : b < w0.heap.size) (hb2 : w0.heap[b]? = some kwObj) : Calls Tryd.prog 22 #[Str l, .map (some b)] w0 (Ret w0 (.int .i64 ((kindOf l : Nat) : Int))) := by
  refine calls_K (args := [Str l, .map (some b)]) (n := 14) (env := [(0, Str l), (1, .map (some b))]) Tryd.func22 rfl rfl rfl ⟨rfl, rfl, trivial⟩ fun a w hK hM => ?_
  refine wp_seq ?_
  refine region_go (lst := [0]) (by kernel_rfl) ?_
  refine stepP hK 4 (.int .i64 0) (by kernel_rfl) (by kernel_rfl) fun a hK => ?_
  refine region_done hK [(4, .int .i64 0), (0, Str l), (1, .map (some b))] ⟨rfl, rfl, rfl, trivial⟩ fun a hK => ?_
  refine wp_seq ?_
  refine wp_seq ?_
  refine region_go (lst := [0, 1, 2, 3, 4, 5, 6, 7, 8]) (by kernel_rfl) ?_
  refine stepM hK 8 1 (by kernel_rfl) (.inl rfl) rfl fun a hK => ?_
  refine stepM hK 9 0 (by kernel_rfl) (.inl rfl) rfl fun a hK => ?_
  rcases Bool.eq_false_or_eq_true (keyL.contains l) with h1 | h1
  · obtain ⟨j, hj⟩ := set_yes keyL l 0 h1
    refine stepP hK 10 (.tuple #[.agg #[], .bool true]) (by kernel_rfl) (run_lookS_yes (kt := 9) (et := 62) rfl rfl rfl Tryd.underlying44 Tryd.underlying9 ((hM.below.block _ hb1).trans hb2) hj) fun a hK => ?_
    refine stepM hK 7 10 (by kernel_rfl) (.inl rfl) rfl fun a hK => ?_
    refine stepP hK 11 (.agg #[]) (by kernel_rfl) (by kernel_rfl) fun a hK => ?_
    refine stepP hK 12 (.bool true) (by kernel_rfl) (by kernel_rfl) fun a hK => ?_
    refine stepAlloc hK hM 5 62 [] (fun b => .pointer (some ⟨b, 0, none⟩)) (by kernel_rfl) (by kernel_rfl) fun b2 a w hK hM => ?_
    refine stepStore hK hM 0 [] (by kernel_rfl) rfl rfl rfl rfl (by kernel_rfl) fun w hM => ?_
    replace hM := hM.to [.row b2 62 []] (by kernel_rfl)
    refine stepM hK 6 12 (by kernel_rfl) (.inr rfl) rfl fun a hK => ?_
    refine region_done hK [(6, .bool true), (4, .int .i64 0), (0, Str l), (1, .map (some b))] ⟨rfl, rfl, rfl, rfl, trivial⟩ fun a hK => ?_
    refine wp_seq ?_
    refine region_go (lst := [0]) (by kernel_rfl) ?_
    refine stepM hK 13 6 (by kernel_rfl) (.inl rfl) rfl fun a hK => ?_
    refine region_done hK [(13, .bool true), (6, .bool true), (4, .int .i64 0), (0, Str l), (1, .map (some b))] ⟨rfl, rfl, rfl, rfl, rfl, trivial⟩ fun a hK => ?_
    refine wp_cond_true (hK.get rfl) ?_
    refine wp_seq ?_
    refine region_go (lst := [0]) (by kernel_rfl) ?_
    refine stepP hK 4 (.int .i64 2) (by kernel_rfl) (by kernel_rfl) fun a hK => ?_
    refine region_done hK [(4, .int .i64 2), (13, .bool true), (6, .bool true), (0, Str l), (1, .map (some b))] ⟨rfl, rfl, rfl, rfl, rfl, trivial⟩ fun a hK => ?_
    refine wp_ret ?_
    exact ret_t hK rfl (u := (.int .i64 2)) rfl (⟨congrArg (fun q : Nat => Ending.returned (.int .i64 (q : Int))) (kw_kind_true h1), hM.below⟩)
  · refine stepP hK 10 (.tuple #[.agg #[], .bool false]) (by kernel_rfl) (run_lookS_no (kt := 9) (et := 62) rfl rfl rfl Tryd.underlying44 Tryd.underlying9 ((hM.below.block _ hb1).trans hb2) (by kernel_rfl) (set_no keyL l 0 h1)) fun a hK => ?_
    refine stepM hK 7 10 (by kernel_rfl) (.inl rfl) rfl fun a hK => ?_
    refine stepP hK 11 (.agg #[]) (by kernel_rfl) (by kernel_rfl) fun a hK => ?_
    refine stepP hK 12 (.bool false) (by kernel_rfl) (by kernel_rfl) fun a hK => ?_
    refine stepAlloc hK hM 5 62 [] (fun b => .pointer (some ⟨b, 0, none⟩)) (by kernel_rfl) (by kernel_rfl) fun b3 a w hK hM => ?_
    refine stepStore hK hM 0 [] (by kernel_rfl) rfl rfl rfl rfl (by kernel_rfl) fun w hM => ?_
    replace hM := hM.to [.row b3 62 []] (by kernel_rfl)
    refine stepM hK 6 12 (by kernel_rfl) (.inr rfl) rfl fun a hK => ?_
    refine region_done hK [(6, .bool false), (4, .int .i64 0), (0, Str l), (1, .map (some b))] ⟨rfl, rfl, rfl, rfl, trivial⟩ fun a hK => ?_
    refine wp_seq ?_
    refine region_go (lst := [0]) (by kernel_rfl) ?_
    refine stepM hK 13 6 (by kernel_rfl) (.inl rfl) rfl fun a hK => ?_
    refine region_done hK [(13, .bool false), (6, .bool false), (4, .int .i64 0), (0, Str l), (1, .map (some b))] ⟨rfl, rfl, rfl, rfl, rfl, trivial⟩ fun a hK => ?_
    refine wp_cond_false (hK.get rfl) ?_
    refine wp_skip ?_
    refine wp_seq ?_
    refine region_go (lst := [0]) (by kernel_rfl) ?_
    refine stepP hK 4 (.int .i64 1) (by kernel_rfl) (by kernel_rfl) fun a hK => ?_
    refine region_done hK [(4, .int .i64 1), (13, .bool false), (6, .bool false), (0, Str l), (1, .map (some b))] ⟨rfl, rfl, rfl, rfl, rfl, trivial⟩ fun a hK => ?_
    refine wp_ret ?_
    exact ret_t hK rfl (u := (.int .i64 1)) rfl (⟨congrArg (fun q : Nat => Ending.returned (.int .i64 (q : Int))) (kw_kind_false h1), hM.below⟩)
theorem en_lex_wordKind : Enters Tryd.prog 22 := enters_of Tryd.func22 (by kernel_rfl) rfl
set_option maxRecDepth 100000 in
set_option maxHeartbeats 4000000 in
theorem lex_begins (q l : List UInt8) (b : Nat) (w0 : World) (hb : CellsAt w0 ⟨b, 0, none⟩ [Str l]) : Calls Tryd.prog 54 #[Str q, .pointer (some ⟨b, 0, none⟩)] w0 (Ret w0 (.bool (List.isPrefixOf q l))) := by
  refine calls_K (args := [Str q, .pointer (some ⟨b, 0, none⟩)]) (n := 7) (env := [(0, Str q), (1, .pointer (some ⟨b, 0, none⟩))]) Tryd.func54 rfl rfl rfl ⟨rfl, rfl, trivial⟩ fun a w hK hM => ?_
  refine wp_seq ?_
  refine region_go (lst := [0]) (by kernel_rfl) ?_
  refine stepP hK 3 (.bool false) (by kernel_rfl) (by kernel_rfl) fun a hK => ?_
  refine region_done hK [(3, .bool false), (0, Str q), (1, .pointer (some ⟨b, 0, none⟩))] ⟨rfl, rfl, rfl, trivial⟩ fun a hK => ?_
  refine wp_seq ?_
  refine region_go (lst := [0, 1, 2, 3]) (by kernel_rfl) ?_
  refine stepLoad hK 4 (Str l) (by kernel_rfl) rfl rfl (hb.on hM.below) (by kernel_rfl) fun a hK => ?_
  refine stepM hK 5 0 (by kernel_rfl) (.inl rfl) rfl fun a hK => ?_
  rcases Bool.eq_false_or_eq_true (List.isPrefixOf q l) with h1 | h1
  · refine stepRet hK hM 6 #[Str l, Str q] (.bool true) (by kernel_rfl) (run_callE en_strings_HasPrefix rfl rfl (by kernel_rfl)) (ret_eq (lib_HasPrefix l q _) (congrArg Value.bool h1)) fun a w hK hM => ?_
    refine stepM hK 3 6 (by kernel_rfl) (.inr rfl) rfl fun a hK => ?_
    refine region_done hK [(3, .bool true), (0, Str q), (1, .pointer (some ⟨b, 0, none⟩))] ⟨rfl, rfl, rfl, trivial⟩ fun a hK => ?_
    refine wp_ret ?_
    exact ret_t hK rfl (u := (.bool true)) rfl (⟨congrArg (fun x => Ending.returned (Value.bool x)) h1.symm, hM.below⟩)
  · refine stepRet hK hM 6 #[Str l, Str q] (.bool false) (by kernel_rfl) (run_callE en_strings_HasPrefix rfl rfl (by kernel_rfl)) (ret_eq (lib_HasPrefix l q _) (congrArg Value.bool h1)) fun a w hK hM => ?_
    refine stepM hK 3 6 (by kernel_rfl) (.inr rfl) rfl fun a hK => ?_
    refine region_done hK [(3, .bool false), (0, Str q), (1, .pointer (some ⟨b, 0, none⟩))] ⟨rfl, rfl, rfl, trivial⟩ fun a hK => ?_
    refine wp_ret ?_
    exact ret_t hK rfl (u := (.bool false)) rfl (⟨congrArg (fun x => Ending.returned (Value.bool x)) h1.symm, hM.below⟩)
theorem en_lex_sign_1 : Enters Tryd.prog 54 := enters_of Tryd.func54 (by kernel_rfl) rfl
/-- How many bytes the sign has that a text begins with. -/
def signLen (l : List UInt8) : Nat := match signAt l with
  | some q => q.length
  | none => 0
set_option maxRecDepth 100000 in
set_option maxHeartbeats 4000000 in
theorem lex_sign (l : List UInt8) (w0 : World) : Calls Tryd.prog 42 #[Str l] w0 (Ret w0 (.int .i64 ((signLen l : Nat) : Int))) := by
  refine calls_K (args := [Str l]) (n := 53) (env := [(0, Str l)]) Tryd.func42 rfl rfl rfl ⟨rfl, trivial⟩ fun a w hK hM => ?_
  refine wp_seq ?_
  refine region_go (lst := [0, 1]) (by kernel_rfl) ?_
  refine stepAlloc hK hM 1 9 [Str l] (fun b => .pointer (some ⟨b, 0, none⟩)) (by kernel_rfl) (by kernel_rfl) fun b1 a w hK hM => ?_
  refine stepP hK 2 (.int .i64 0) (by kernel_rfl) (by kernel_rfl) fun a hK => ?_
  refine region_done hK [(2, .int .i64 0), (1, .pointer (some ⟨b1, 0, none⟩)), (0, Str l)] ⟨rfl, rfl, rfl, trivial⟩ fun a hK => ?_
  refine wp_seq ?_
  refine region_go (lst := [0]) (by kernel_rfl) ?_
  refine stepP hK 3 (.int .i64 0) (by kernel_rfl) (by kernel_rfl) fun a hK => ?_
  refine region_done hK [(3, .int .i64 0), (2, .int .i64 0), (1, .pointer (some ⟨b1, 0, none⟩)), (0, Str l)] ⟨rfl, rfl, rfl, rfl, trivial⟩ fun a hK => ?_
  refine wp_seq ?_
  refine region_go (lst := [0, 1]) (by kernel_rfl) ?_
  refine stepP hK 5 (.func (.func 54) #[] #[.pointer (some ⟨b1, 0, none⟩)]) (by kernel_rfl) (by kernel_rfl) fun a hK => ?_
  refine stepM hK 4 5 (by kernel_rfl) (.inr rfl) rfl fun a hK => ?_
  refine region_done hK [(4, .func (.func 54) #[] #[.pointer (some ⟨b1, 0, none⟩)]), (3, .int .i64 0), (2, .int .i64 0), (1, .pointer (some ⟨b1, 0, none⟩)), (0, Str l)] ⟨rfl, rfl, rfl, rfl, rfl, trivial⟩ fun a hK => ?_
  refine wp_seq ?_
  refine wp_block ?_
  refine wp_seq ?_
  refine wp_block ?_
  refine wp_seq ?_
  refine wp_block ?_
  refine wp_seq ?_
  refine wp_seq ?_
  refine wp_seq ?_
  refine wp_seq ?_
  refine region_go (lst := [0, 1, 2]) (by kernel_rfl) ?_
  refine stepM hK 7 4 (by kernel_rfl) (.inl rfl) rfl fun a hK => ?_
  rcases Bool.eq_false_or_eq_true (List.isPrefixOf [124, 124] l) with h2 | h2
  · refine stepRet hK hM 8 #[Str [124, 124], .pointer (some ⟨b1, 0, none⟩)] (.bool true) (by kernel_rfl) (run_callE en_lex_sign_1 rfl rfl (by kernel_rfl)) (ret_eq (lex_begins [124, 124] l _ _ ((hM.row 0 rfl).cells 0 1)) (congrArg Value.bool h2)) fun a w hK hM => ?_
    refine stepM hK 6 8 (by kernel_rfl) (.inr rfl) rfl fun a hK => ?_
    refine region_done hK [(6, .bool true), (4, .func (.func 54) #[] #[.pointer (some ⟨b1, 0, none⟩)]), (3, .int .i64 0), (2, .int .i64 0), (1, .pointer (some ⟨b1, 0, none⟩)), (0, Str l)] ⟨rfl, rfl, rfl, rfl, rfl, rfl, trivial⟩ fun a hK => ?_
    refine wp_cond_true (hK.get rfl) ?_
    refine wp_skip ?_
    refine wp_cond_true (hK.get rfl) ?_
    refine wp_exit (exit_then (exit_then (exit_here 1 ?_)))
    refine region_go (lst := [0, 1, 2]) (by kernel_rfl) ?_
    refine stepM hK 48 3 (by kernel_rfl) (.inl rfl) rfl fun a hK => ?_
    refine stepP hK 49 (.int .i64 1) (by kernel_rfl) (by kernel_rfl) fun a hK => ?_
    refine stepM hK 3 49 (by kernel_rfl) (.inr rfl) rfl fun a hK => ?_
    refine region_done hK [(3, .int .i64 1), (6, .bool true), (4, .func (.func 54) #[] #[.pointer (some ⟨b1, 0, none⟩)]), (2, .int .i64 0), (1, .pointer (some ⟨b1, 0, none⟩)), (0, Str l)] ⟨rfl, rfl, rfl, rfl, rfl, rfl, trivial⟩ fun a hK => ?_
    refine wp_seq ?_
    refine region_go (lst := [0, 1, 2]) (by kernel_rfl) ?_
    refine stepM hK 50 3 (by kernel_rfl) (.inl rfl) rfl fun a hK => ?_
    refine stepP hK 51 (.int .i64 2) (by kernel_rfl) (by kernel_rfl) fun a hK => ?_
    refine stepM hK 3 51 (by kernel_rfl) (.inr rfl) rfl fun a hK => ?_
    refine region_done hK [(3, .int .i64 2), (6, .bool true), (4, .func (.func 54) #[] #[.pointer (some ⟨b1, 0, none⟩)]), (2, .int .i64 0), (1, .pointer (some ⟨b1, 0, none⟩)), (0, Str l)] ⟨rfl, rfl, rfl, rfl, rfl, rfl, trivial⟩ fun a hK => ?_
    refine wp_exit (exit_here 0 ?_)
    refine wp_seq ?_
    refine region_go (lst := [0, 1]) (by kernel_rfl) ?_
    refine stepM hK 52 3 (by kernel_rfl) (.inl rfl) rfl fun a hK => ?_
    refine stepM hK 2 52 (by kernel_rfl) (.inr rfl) rfl fun a hK => ?_
    refine region_done hK [(2, .int .i64 2), (3, .int .i64 2), (6, .bool true), (4, .func (.func 54) #[] #[.pointer (some ⟨b1, 0, none⟩)]), (1, .pointer (some ⟨b1, 0, none⟩)), (0, Str l)] ⟨rfl, rfl, rfl, rfl, rfl, rfl, trivial⟩ fun a hK => ?_
    refine wp_ret ?_
    exact ret_t hK rfl (u := (.int .i64 2)) rfl (⟨congrArg (fun q : Nat => Ending.returned (.int .i64 (q : Int))) (show (2 : Nat) = signLen l by unfold signLen signAt signL; rw [List.find?_cons, h2]; try rfl), hM.below⟩)
  · refine stepRet hK hM 8 #[Str [124, 124], .pointer (some ⟨b1, 0, none⟩)] (.bool false) (by kernel_rfl) (run_callE en_lex_sign_1 rfl rfl (by kernel_rfl)) (ret_eq (lex_begins [124, 124] l _ _ ((hM.row 0 rfl).cells 0 1)) (congrArg Value.bool h2)) fun a w hK hM => ?_
    refine stepM hK 6 8 (by kernel_rfl) (.inr rfl) rfl fun a hK => ?_
    refine region_done hK [(6, .bool false), (4, .func (.func 54) #[] #[.pointer (some ⟨b1, 0, none⟩)]), (3, .int .i64 0), (2, .int .i64 0), (1, .pointer (some ⟨b1, 0, none⟩)), (0, Str l)] ⟨rfl, rfl, rfl, rfl, rfl, rfl, trivial⟩ fun a hK => ?_
    refine wp_cond_false (hK.get rfl) ?_
    refine wp_seq ?_
    refine region_go (lst := [0, 1, 2]) (by kernel_rfl) ?_
    refine stepM hK 9 4 (by kernel_rfl) (.inl rfl) rfl fun a hK => ?_
    rcases Bool.eq_false_or_eq_true (List.isPrefixOf [38, 38] l) with h3 | h3
    · refine stepRet hK hM 10 #[Str [38, 38], .pointer (some ⟨b1, 0, none⟩)] (.bool true) (by kernel_rfl) (run_callE en_lex_sign_1 rfl rfl (by kernel_rfl)) (ret_eq (lex_begins [38, 38] l _ _ ((hM.row 0 rfl).cells 0 1)) (congrArg Value.bool h3)) fun a w hK hM => ?_
      refine stepM hK 6 10 (by kernel_rfl) (.inr rfl) rfl fun a hK => ?_
      refine region_done hK [(6, .bool true), (4, .func (.func 54) #[] #[.pointer (some ⟨b1, 0, none⟩)]), (3, .int .i64 0), (2, .int .i64 0), (1, .pointer (some ⟨b1, 0, none⟩)), (0, Str l)] ⟨rfl, rfl, rfl, rfl, rfl, rfl, trivial⟩ fun a hK => ?_
      refine wp_cond_true (hK.get rfl) ?_
      refine wp_skip ?_
      refine wp_cond_true (hK.get rfl) ?_
      refine wp_exit (exit_then (exit_then (exit_here 1 ?_)))
      refine region_go (lst := [0, 1, 2]) (by kernel_rfl) ?_
      refine stepM hK 48 3 (by kernel_rfl) (.inl rfl) rfl fun a hK => ?_
      refine stepP hK 49 (.int .i64 1) (by kernel_rfl) (by kernel_rfl) fun a hK => ?_
      refine stepM hK 3 49 (by kernel_rfl) (.inr rfl) rfl fun a hK => ?_
      refine region_done hK [(3, .int .i64 1), (6, .bool true), (4, .func (.func 54) #[] #[.pointer (some ⟨b1, 0, none⟩)]), (2, .int .i64 0), (1, .pointer (some ⟨b1, 0, none⟩)), (0, Str l)] ⟨rfl, rfl, rfl, rfl, rfl, rfl, trivial⟩ fun a hK => ?_
      refine wp_seq ?_
      refine region_go (lst := [0, 1, 2]) (by kernel_rfl) ?_
      refine stepM hK 50 3 (by kernel_rfl) (.inl rfl) rfl fun a hK => ?_
      refine stepP hK 51 (.int .i64 2) (by kernel_rfl) (by kernel_rfl) fun a hK => ?_
      refine stepM hK 3 51 (by kernel_rfl) (.inr rfl) rfl fun a hK => ?_
      refine region_done hK [(3, .int .i64 2), (6, .bool true), (4, .func (.func 54) #[] #[.pointer (some ⟨b1, 0, none⟩)]), (2, .int .i64 0), (1, .pointer (some ⟨b1, 0, none⟩)), (0, Str l)] ⟨rfl, rfl, rfl, rfl, rfl, rfl, trivial⟩ fun a hK => ?_
      refine wp_exit (exit_here 0 ?_)
      refine wp_seq ?_
      refine region_go (lst := [0, 1]) (by kernel_rfl) ?_
      refine stepM hK 52 3 (by kernel_rfl) (.inl rfl) rfl fun a hK => ?_
      refine stepM hK 2 52 (by kernel_rfl) (.inr rfl) rfl fun a hK => ?_
      refine region_done hK [(2, .int .i64 2), (3, .int .i64 2), (6, .bool true), (4, .func (.func 54) #[] #[.pointer (some ⟨b1, 0, none⟩)]), (1, .pointer (some ⟨b1, 0, none⟩)), (0, Str l)] ⟨rfl, rfl, rfl, rfl, rfl, rfl, trivial⟩ fun a hK => ?_
      refine wp_ret ?_
      exact ret_t hK rfl (u := (.int .i64 2)) rfl (⟨congrArg (fun q : Nat => Ending.returned (.int .i64 (q : Int))) (show (2 : Nat) = signLen l by unfold signLen signAt signL; rw [List.find?_cons, h2, List.find?_cons, h3]; try rfl), hM.below⟩)
    · refine stepRet hK hM 10 #[Str [38, 38], .pointer (some ⟨b1, 0, none⟩)] (.bool false) (by kernel_rfl) (run_callE en_lex_sign_1 rfl rfl (by kernel_rfl)) (ret_eq (lex_begins [38, 38] l _ _ ((hM.row 0 rfl).cells 0 1)) (congrArg Value.bool h3)) fun a w hK hM => ?_
      refine stepM hK 6 10 (by kernel_rfl) (.inr rfl) rfl fun a hK => ?_
      refine region_done hK [(6, .bool false), (4, .func (.func 54) #[] #[.pointer (some ⟨b1, 0, none⟩)]), (3, .int .i64 0), (2, .int .i64 0), (1, .pointer (some ⟨b1, 0, none⟩)), (0, Str l)] ⟨rfl, rfl, rfl, rfl, rfl, rfl, trivial⟩ fun a hK => ?_
      refine wp_cond_false (hK.get rfl) ?_
      refine wp_seq ?_
      refine region_go (lst := [0, 1, 2]) (by kernel_rfl) ?_
      refine stepM hK 11 4 (by kernel_rfl) (.inl rfl) rfl fun a hK => ?_
      rcases Bool.eq_false_or_eq_true (List.isPrefixOf [61, 61] l) with h4 | h4
      · refine stepRet hK hM 12 #[Str [61, 61], .pointer (some ⟨b1, 0, none⟩)] (.bool true) (by kernel_rfl) (run_callE en_lex_sign_1 rfl rfl (by kernel_rfl)) (ret_eq (lex_begins [61, 61] l _ _ ((hM.row 0 rfl).cells 0 1)) (congrArg Value.bool h4)) fun a w hK hM => ?_
        refine stepM hK 6 12 (by kernel_rfl) (.inr rfl) rfl fun a hK => ?_
        refine region_done hK [(6, .bool true), (4, .func (.func 54) #[] #[.pointer (some ⟨b1, 0, none⟩)]), (3, .int .i64 0), (2, .int .i64 0), (1, .pointer (some ⟨b1, 0, none⟩)), (0, Str l)] ⟨rfl, rfl, rfl, rfl, rfl, rfl, trivial⟩ fun a hK => ?_
        refine wp_cond_true (hK.get rfl) ?_
        refine wp_skip ?_
        refine wp_cond_true (hK.get rfl) ?_
        refine wp_exit (exit_then (exit_then (exit_here 1 ?_)))
        refine region_go (lst := [0, 1, 2]) (by kernel_rfl) ?_
        refine stepM hK 48 3 (by kernel_rfl) (.inl rfl) rfl fun a hK => ?_
        refine stepP hK 49 (.int .i64 1) (by kernel_rfl) (by kernel_rfl) fun a hK => ?_
        refine stepM hK 3 49 (by kernel_rfl) (.inr rfl) rfl fun a hK => ?_
        refine region_done hK [(3, .int .i64 1), (6, .bool true), (4, .func (.func 54) #[] #[.pointer (some ⟨b1, 0, none⟩)]), (2, .int .i64 0), (1, .pointer (some ⟨b1, 0, none⟩)), (0, Str l)] ⟨rfl, rfl, rfl, rfl, rfl, rfl, trivial⟩ fun a hK => ?_
        refine wp_seq ?_
        refine region_go (lst := [0, 1, 2]) (by kernel_rfl) ?_
        refine stepM hK 50 3 (by kernel_rfl) (.inl rfl) rfl fun a hK => ?_
        refine stepP hK 51 (.int .i64 2) (by kernel_rfl) (by kernel_rfl) fun a hK => ?_
        refine stepM hK 3 51 (by kernel_rfl) (.inr rfl) rfl fun a hK => ?_
        refine region_done hK [(3, .int .i64 2), (6, .bool true), (4, .func (.func 54) #[] #[.pointer (some ⟨b1, 0, none⟩)]), (2, .int .i64 0), (1, .pointer (some ⟨b1, 0, none⟩)), (0, Str l)] ⟨rfl, rfl, rfl, rfl, rfl, rfl, trivial⟩ fun a hK => ?_
        refine wp_exit (exit_here 0 ?_)
        refine wp_seq ?_
        refine region_go (lst := [0, 1]) (by kernel_rfl) ?_
        refine stepM hK 52 3 (by kernel_rfl) (.inl rfl) rfl fun a hK => ?_
        refine stepM hK 2 52 (by kernel_rfl) (.inr rfl) rfl fun a hK => ?_
        refine region_done hK [(2, .int .i64 2), (3, .int .i64 2), (6, .bool true), (4, .func (.func 54) #[] #[.pointer (some ⟨b1, 0, none⟩)]), (1, .pointer (some ⟨b1, 0, none⟩)), (0, Str l)] ⟨rfl, rfl, rfl, rfl, rfl, rfl, trivial⟩ fun a hK => ?_
        refine wp_ret ?_
        exact ret_t hK rfl (u := (.int .i64 2)) rfl (⟨congrArg (fun q : Nat => Ending.returned (.int .i64 (q : Int))) (show (2 : Nat) = signLen l by unfold signLen signAt signL; rw [List.find?_cons, h2, List.find?_cons, h3, List.find?_cons, h4]; try rfl), hM.below⟩)
      · refine stepRet hK hM 12 #[Str [61, 61], .pointer (some ⟨b1, 0, none⟩)] (.bool false) (by kernel_rfl) (run_callE en_lex_sign_1 rfl rfl (by kernel_rfl)) (ret_eq (lex_begins [61, 61] l _ _ ((hM.row 0 rfl).cells 0 1)) (congrArg Value.bool h4)) fun a w hK hM => ?_
        refine stepM hK 6 12 (by kernel_rfl) (.inr rfl) rfl fun a hK => ?_
        refine region_done hK [(6, .bool false), (4, .func (.func 54) #[] #[.pointer (some ⟨b1, 0, none⟩)]), (3, .int .i64 0), (2, .int .i64 0), (1, .pointer (some ⟨b1, 0, none⟩)), (0, Str l)] ⟨rfl, rfl, rfl, rfl, rfl, rfl, trivial⟩ fun a hK => ?_
        refine wp_cond_false (hK.get rfl) ?_
        refine wp_seq ?_
        refine region_go (lst := [0, 1, 2]) (by kernel_rfl) ?_
        refine stepM hK 13 4 (by kernel_rfl) (.inl rfl) rfl fun a hK => ?_
        rcases Bool.eq_false_or_eq_true (List.isPrefixOf [33, 61] l) with h5 | h5
        · refine stepRet hK hM 14 #[Str [33, 61], .pointer (some ⟨b1, 0, none⟩)] (.bool true) (by kernel_rfl) (run_callE en_lex_sign_1 rfl rfl (by kernel_rfl)) (ret_eq (lex_begins [33, 61] l _ _ ((hM.row 0 rfl).cells 0 1)) (congrArg Value.bool h5)) fun a w hK hM => ?_
          refine stepM hK 6 14 (by kernel_rfl) (.inr rfl) rfl fun a hK => ?_
          refine region_done hK [(6, .bool true), (4, .func (.func 54) #[] #[.pointer (some ⟨b1, 0, none⟩)]), (3, .int .i64 0), (2, .int .i64 0), (1, .pointer (some ⟨b1, 0, none⟩)), (0, Str l)] ⟨rfl, rfl, rfl, rfl, rfl, rfl, trivial⟩ fun a hK => ?_
          refine wp_cond_true (hK.get rfl) ?_
          refine wp_skip ?_
          refine wp_cond_true (hK.get rfl) ?_
          refine wp_exit (exit_then (exit_then (exit_here 1 ?_)))
          refine region_go (lst := [0, 1, 2]) (by kernel_rfl) ?_
          refine stepM hK 48 3 (by kernel_rfl) (.inl rfl) rfl fun a hK => ?_
          refine stepP hK 49 (.int .i64 1) (by kernel_rfl) (by kernel_rfl) fun a hK => ?_
          refine stepM hK 3 49 (by kernel_rfl) (.inr rfl) rfl fun a hK => ?_
          refine region_done hK [(3, .int .i64 1), (6, .bool true), (4, .func (.func 54) #[] #[.pointer (some ⟨b1, 0, none⟩)]), (2, .int .i64 0), (1, .pointer (some ⟨b1, 0, none⟩)), (0, Str l)] ⟨rfl, rfl, rfl, rfl, rfl, rfl, trivial⟩ fun a hK => ?_
          refine wp_seq ?_
          refine region_go (lst := [0, 1, 2]) (by kernel_rfl) ?_
          refine stepM hK 50 3 (by kernel_rfl) (.inl rfl) rfl fun a hK => ?_
          refine stepP hK 51 (.int .i64 2) (by kernel_rfl) (by kernel_rfl) fun a hK => ?_
          refine stepM hK 3 51 (by kernel_rfl) (.inr rfl) rfl fun a hK => ?_
          refine region_done hK [(3, .int .i64 2), (6, .bool true), (4, .func (.func 54) #[] #[.pointer (some ⟨b1, 0, none⟩)]), (2, .int .i64 0), (1, .pointer (some ⟨b1, 0, none⟩)), (0, Str l)] ⟨rfl, rfl, rfl, rfl, rfl, rfl, trivial⟩ fun a hK => ?_
          refine wp_exit (exit_here 0 ?_)
          refine wp_seq ?_
          refine region_go (lst := [0, 1]) (by kernel_rfl) ?_
          refine stepM hK 52 3 (by kernel_rfl) (.inl rfl) rfl fun a hK => ?_
          refine stepM hK 2 52 (by kernel_rfl) (.inr rfl) rfl fun a hK => ?_
          refine region_done hK [(2, .int .i64 2), (3, .int .i64 2), (6, .bool true), (4, .func (.func 54) #[] #[.pointer (some ⟨b1, 0, none⟩)]), (1, .pointer (some ⟨b1, 0, none⟩)), (0, Str l)] ⟨rfl, rfl, rfl, rfl, rfl, rfl, trivial⟩ fun a hK => ?_
          refine wp_ret ?_
          exact ret_t hK rfl (u := (.int .i64 2)) rfl (⟨congrArg (fun q : Nat => Ending.returned (.int .i64 (q : Int))) (show (2 : Nat) = signLen l by unfold signLen signAt signL; rw [List.find?_cons, h2, List.find?_cons, h3, List.find?_cons, h4, List.find?_cons, h5]; try rfl), hM.below⟩)
        · refine stepRet hK hM 14 #[Str [33, 61], .pointer (some ⟨b1, 0, none⟩)] (.bool false) (by kernel_rfl) (run_callE en_lex_sign_1 rfl rfl (by kernel_rfl)) (ret_eq (lex_begins [33, 61] l _ _ ((hM.row 0 rfl).cells 0 1)) (congrArg Value.bool h5)) fun a w hK hM => ?_
          refine stepM hK 6 14 (by kernel_rfl) (.inr rfl) rfl fun a hK => ?_
          refine region_done hK [(6, .bool false), (4, .func (.func 54) #[] #[.pointer (some ⟨b1, 0, none⟩)]), (3, .int .i64 0), (2, .int .i64 0), (1, .pointer (some ⟨b1, 0, none⟩)), (0, Str l)] ⟨rfl, rfl, rfl, rfl, rfl, rfl, trivial⟩ fun a hK => ?_
          refine wp_cond_false (hK.get rfl) ?_
          refine region_go (lst := [0, 1, 2]) (by kernel_rfl) ?_
          refine stepM hK 15 4 (by kernel_rfl) (.inl rfl) rfl fun a hK => ?_
          rcases Bool.eq_false_or_eq_true (List.isPrefixOf [60, 61] l) with h6 | h6
          · refine stepRet hK hM 16 #[Str [60, 61], .pointer (some ⟨b1, 0, none⟩)] (.bool true) (by kernel_rfl) (run_callE en_lex_sign_1 rfl rfl (by kernel_rfl)) (ret_eq (lex_begins [60, 61] l _ _ ((hM.row 0 rfl).cells 0 1)) (congrArg Value.bool h6)) fun a w hK hM => ?_
            refine stepM hK 6 16 (by kernel_rfl) (.inr rfl) rfl fun a hK => ?_
            refine region_done hK [(6, .bool true), (4, .func (.func 54) #[] #[.pointer (some ⟨b1, 0, none⟩)]), (3, .int .i64 0), (2, .int .i64 0), (1, .pointer (some ⟨b1, 0, none⟩)), (0, Str l)] ⟨rfl, rfl, rfl, rfl, rfl, rfl, trivial⟩ fun a hK => ?_
            refine wp_cond_true (hK.get rfl) ?_
            refine wp_exit (exit_then (exit_then (exit_here 1 ?_)))
            refine region_go (lst := [0, 1, 2]) (by kernel_rfl) ?_
            refine stepM hK 48 3 (by kernel_rfl) (.inl rfl) rfl fun a hK => ?_
            refine stepP hK 49 (.int .i64 1) (by kernel_rfl) (by kernel_rfl) fun a hK => ?_
            refine stepM hK 3 49 (by kernel_rfl) (.inr rfl) rfl fun a hK => ?_
            refine region_done hK [(3, .int .i64 1), (6, .bool true), (4, .func (.func 54) #[] #[.pointer (some ⟨b1, 0, none⟩)]), (2, .int .i64 0), (1, .pointer (some ⟨b1, 0, none⟩)), (0, Str l)] ⟨rfl, rfl, rfl, rfl, rfl, rfl, trivial⟩ fun a hK => ?_
            refine wp_seq ?_
            refine region_go (lst := [0, 1, 2]) (by kernel_rfl) ?_
            refine stepM hK 50 3 (by kernel_rfl) (.inl rfl) rfl fun a hK => ?_
            refine stepP hK 51 (.int .i64 2) (by kernel_rfl) (by kernel_rfl) fun a hK => ?_
            refine stepM hK 3 51 (by kernel_rfl) (.inr rfl) rfl fun a hK => ?_
            refine region_done hK [(3, .int .i64 2), (6, .bool true), (4, .func (.func 54) #[] #[.pointer (some ⟨b1, 0, none⟩)]), (2, .int .i64 0), (1, .pointer (some ⟨b1, 0, none⟩)), (0, Str l)] ⟨rfl, rfl, rfl, rfl, rfl, rfl, trivial⟩ fun a hK => ?_
            refine wp_exit (exit_here 0 ?_)
            refine wp_seq ?_
            refine region_go (lst := [0, 1]) (by kernel_rfl) ?_
            refine stepM hK 52 3 (by kernel_rfl) (.inl rfl) rfl fun a hK => ?_
            refine stepM hK 2 52 (by kernel_rfl) (.inr rfl) rfl fun a hK => ?_
            refine region_done hK [(2, .int .i64 2), (3, .int .i64 2), (6, .bool true), (4, .func (.func 54) #[] #[.pointer (some ⟨b1, 0, none⟩)]), (1, .pointer (some ⟨b1, 0, none⟩)), (0, Str l)] ⟨rfl, rfl, rfl, rfl, rfl, rfl, trivial⟩ fun a hK => ?_
            refine wp_ret ?_
            exact ret_t hK rfl (u := (.int .i64 2)) rfl (⟨congrArg (fun q : Nat => Ending.returned (.int .i64 (q : Int))) (show (2 : Nat) = signLen l by unfold signLen signAt signL; rw [List.find?_cons, h2, List.find?_cons, h3, List.find?_cons, h4, List.find?_cons, h5, List.find?_cons, h6]; try rfl), hM.below⟩)
          · refine stepRet hK hM 16 #[Str [60, 61], .pointer (some ⟨b1, 0, none⟩)] (.bool false) (by kernel_rfl) (run_callE en_lex_sign_1 rfl rfl (by kernel_rfl)) (ret_eq (lex_begins [60, 61] l _ _ ((hM.row 0 rfl).cells 0 1)) (congrArg Value.bool h6)) fun a w hK hM => ?_
            refine stepM hK 6 16 (by kernel_rfl) (.inr rfl) rfl fun a hK => ?_
            refine region_done hK [(6, .bool false), (4, .func (.func 54) #[] #[.pointer (some ⟨b1, 0, none⟩)]), (3, .int .i64 0), (2, .int .i64 0), (1, .pointer (some ⟨b1, 0, none⟩)), (0, Str l)] ⟨rfl, rfl, rfl, rfl, rfl, rfl, trivial⟩ fun a hK => ?_
            refine wp_cond_false (hK.get rfl) ?_
            refine wp_skip ?_
            refine wp_seq ?_
            refine wp_seq ?_
            refine region_go (lst := [0, 1, 2]) (by kernel_rfl) ?_
            refine stepM hK 18 4 (by kernel_rfl) (.inl rfl) rfl fun a hK => ?_
            rcases Bool.eq_false_or_eq_true (List.isPrefixOf [60] l) with h7 | h7
            · refine stepRet hK hM 19 #[Str [60], .pointer (some ⟨b1, 0, none⟩)] (.bool true) (by kernel_rfl) (run_callE en_lex_sign_1 rfl rfl (by kernel_rfl)) (ret_eq (lex_begins [60] l _ _ ((hM.row 0 rfl).cells 0 1)) (congrArg Value.bool h7)) fun a w hK hM => ?_
              refine stepM hK 17 19 (by kernel_rfl) (.inr rfl) rfl fun a hK => ?_
              refine region_done hK [(17, .bool true), (6, .bool false), (4, .func (.func 54) #[] #[.pointer (some ⟨b1, 0, none⟩)]), (3, .int .i64 0), (2, .int .i64 0), (1, .pointer (some ⟨b1, 0, none⟩)), (0, Str l)] ⟨rfl, rfl, rfl, rfl, rfl, rfl, rfl, trivial⟩ fun a hK => ?_
              refine wp_cond_true (hK.get rfl) ?_
              refine wp_skip ?_
              refine wp_cond_true (hK.get rfl) ?_
              refine wp_exit (exit_then (exit_past rfl (exit_then (exit_here 2 ?_))))
              refine wp_seq ?_
              refine region_go (lst := [0, 1, 2]) (by kernel_rfl) ?_
              refine stepM hK 50 3 (by kernel_rfl) (.inl rfl) rfl fun a hK => ?_
              refine stepP hK 51 (.int .i64 1) (by kernel_rfl) (by kernel_rfl) fun a hK => ?_
              refine stepM hK 3 51 (by kernel_rfl) (.inr rfl) rfl fun a hK => ?_
              refine region_done hK [(3, .int .i64 1), (17, .bool true), (6, .bool false), (4, .func (.func 54) #[] #[.pointer (some ⟨b1, 0, none⟩)]), (2, .int .i64 0), (1, .pointer (some ⟨b1, 0, none⟩)), (0, Str l)] ⟨rfl, rfl, rfl, rfl, rfl, rfl, rfl, trivial⟩ fun a hK => ?_
              refine wp_exit (exit_here 0 ?_)
              refine wp_seq ?_
              refine region_go (lst := [0, 1]) (by kernel_rfl) ?_
              refine stepM hK 52 3 (by kernel_rfl) (.inl rfl) rfl fun a hK => ?_
              refine stepM hK 2 52 (by kernel_rfl) (.inr rfl) rfl fun a hK => ?_
              refine region_done hK [(2, .int .i64 1), (3, .int .i64 1), (17, .bool true), (6, .bool false), (4, .func (.func 54) #[] #[.pointer (some ⟨b1, 0, none⟩)]), (1, .pointer (some ⟨b1, 0, none⟩)), (0, Str l)] ⟨rfl, rfl, rfl, rfl, rfl, rfl, rfl, trivial⟩ fun a hK => ?_
              refine wp_ret ?_
              exact ret_t hK rfl (u := (.int .i64 1)) rfl (⟨congrArg (fun q : Nat => Ending.returned (.int .i64 (q : Int))) (show (1 : Nat) = signLen l by unfold signLen signAt signL; rw [List.find?_cons, h2, List.find?_cons, h3, List.find?_cons, h4, List.find?_cons, h5, List.find?_cons, h6, List.find?_cons, h7]; try rfl), hM.below⟩)
            · refine stepRet hK hM 19 #[Str [60], .pointer (some ⟨b1, 0, none⟩)] (.bool false) (by kernel_rfl) (run_callE en_lex_sign_1 rfl rfl (by kernel_rfl)) (ret_eq (lex_begins [60] l _ _ ((hM.row 0 rfl).cells 0 1)) (congrArg Value.bool h7)) fun a w hK hM => ?_
              refine stepM hK 17 19 (by kernel_rfl) (.inr rfl) rfl fun a hK => ?_
              refine region_done hK [(17, .bool false), (6, .bool false), (4, .func (.func 54) #[] #[.pointer (some ⟨b1, 0, none⟩)]), (3, .int .i64 0), (2, .int .i64 0), (1, .pointer (some ⟨b1, 0, none⟩)), (0, Str l)] ⟨rfl, rfl, rfl, rfl, rfl, rfl, rfl, trivial⟩ fun a hK => ?_
              refine wp_cond_false (hK.get rfl) ?_
              refine wp_seq ?_
              refine region_go (lst := [0, 1, 2]) (by kernel_rfl) ?_
              refine stepM hK 20 4 (by kernel_rfl) (.inl rfl) rfl fun a hK => ?_
              rcases Bool.eq_false_or_eq_true (List.isPrefixOf [43] l) with h8 | h8
              · refine stepRet hK hM 21 #[Str [43], .pointer (some ⟨b1, 0, none⟩)] (.bool true) (by kernel_rfl) (run_callE en_lex_sign_1 rfl rfl (by kernel_rfl)) (ret_eq (lex_begins [43] l _ _ ((hM.row 0 rfl).cells 0 1)) (congrArg Value.bool h8)) fun a w hK hM => ?_
                refine stepM hK 17 21 (by kernel_rfl) (.inr rfl) rfl fun a hK => ?_
                refine region_done hK [(17, .bool true), (6, .bool false), (4, .func (.func 54) #[] #[.pointer (some ⟨b1, 0, none⟩)]), (3, .int .i64 0), (2, .int .i64 0), (1, .pointer (some ⟨b1, 0, none⟩)), (0, Str l)] ⟨rfl, rfl, rfl, rfl, rfl, rfl, rfl, trivial⟩ fun a hK => ?_
                refine wp_cond_true (hK.get rfl) ?_
                refine wp_skip ?_
                refine wp_cond_true (hK.get rfl) ?_
                refine wp_exit (exit_then (exit_past rfl (exit_then (exit_here 2 ?_))))
                refine wp_seq ?_
                refine region_go (lst := [0, 1, 2]) (by kernel_rfl) ?_
                refine stepM hK 50 3 (by kernel_rfl) (.inl rfl) rfl fun a hK => ?_
                refine stepP hK 51 (.int .i64 1) (by kernel_rfl) (by kernel_rfl) fun a hK => ?_
                refine stepM hK 3 51 (by kernel_rfl) (.inr rfl) rfl fun a hK => ?_
                refine region_done hK [(3, .int .i64 1), (17, .bool true), (6, .bool false), (4, .func (.func 54) #[] #[.pointer (some ⟨b1, 0, none⟩)]), (2, .int .i64 0), (1, .pointer (some ⟨b1, 0, none⟩)), (0, Str l)] ⟨rfl, rfl, rfl, rfl, rfl, rfl, rfl, trivial⟩ fun a hK => ?_
                refine wp_exit (exit_here 0 ?_)
                refine wp_seq ?_
                refine region_go (lst := [0, 1]) (by kernel_rfl) ?_
                refine stepM hK 52 3 (by kernel_rfl) (.inl rfl) rfl fun a hK => ?_
                refine stepM hK 2 52 (by kernel_rfl) (.inr rfl) rfl fun a hK => ?_
                refine region_done hK [(2, .int .i64 1), (3, .int .i64 1), (17, .bool true), (6, .bool false), (4, .func (.func 54) #[] #[.pointer (some ⟨b1, 0, none⟩)]), (1, .pointer (some ⟨b1, 0, none⟩)), (0, Str l)] ⟨rfl, rfl, rfl, rfl, rfl, rfl, rfl, trivial⟩ fun a hK => ?_
                refine wp_ret ?_
                exact ret_t hK rfl (u := (.int .i64 1)) rfl (⟨congrArg (fun q : Nat => Ending.returned (.int .i64 (q : Int))) (show (1 : Nat) = signLen l by unfold signLen signAt signL; rw [List.find?_cons, h2, List.find?_cons, h3, List.find?_cons, h4, List.find?_cons, h5, List.find?_cons, h6, List.find?_cons, h7, List.find?_cons, h8]; try rfl), hM.below⟩)
              · refine stepRet hK hM 21 #[Str [43], .pointer (some ⟨b1, 0, none⟩)] (.bool false) (by kernel_rfl) (run_callE en_lex_sign_1 rfl rfl (by kernel_rfl)) (ret_eq (lex_begins [43] l _ _ ((hM.row 0 rfl).cells 0 1)) (congrArg Value.bool h8)) fun a w hK hM => ?_
                refine stepM hK 17 21 (by kernel_rfl) (.inr rfl) rfl fun a hK => ?_
                refine region_done hK [(17, .bool false), (6, .bool false), (4, .func (.func 54) #[] #[.pointer (some ⟨b1, 0, none⟩)]), (3, .int .i64 0), (2, .int .i64 0), (1, .pointer (some ⟨b1, 0, none⟩)), (0, Str l)] ⟨rfl, rfl, rfl, rfl, rfl, rfl, rfl, trivial⟩ fun a hK => ?_
                refine wp_cond_false (hK.get rfl) ?_
                refine wp_seq ?_
                refine region_go (lst := [0, 1, 2]) (by kernel_rfl) ?_
                refine stepM hK 22 4 (by kernel_rfl) (.inl rfl) rfl fun a hK => ?_
                rcases Bool.eq_false_or_eq_true (List.isPrefixOf [45] l) with h9 | h9
                · refine stepRet hK hM 23 #[Str [45], .pointer (some ⟨b1, 0, none⟩)] (.bool true) (by kernel_rfl) (run_callE en_lex_sign_1 rfl rfl (by kernel_rfl)) (ret_eq (lex_begins [45] l _ _ ((hM.row 0 rfl).cells 0 1)) (congrArg Value.bool h9)) fun a w hK hM => ?_
                  refine stepM hK 17 23 (by kernel_rfl) (.inr rfl) rfl fun a hK => ?_
                  refine region_done hK [(17, .bool true), (6, .bool false), (4, .func (.func 54) #[] #[.pointer (some ⟨b1, 0, none⟩)]), (3, .int .i64 0), (2, .int .i64 0), (1, .pointer (some ⟨b1, 0, none⟩)), (0, Str l)] ⟨rfl, rfl, rfl, rfl, rfl, rfl, rfl, trivial⟩ fun a hK => ?_
                  refine wp_cond_true (hK.get rfl) ?_
                  refine wp_skip ?_
                  refine wp_cond_true (hK.get rfl) ?_
                  refine wp_exit (exit_then (exit_past rfl (exit_then (exit_here 2 ?_))))
                  refine wp_seq ?_
                  refine region_go (lst := [0, 1, 2]) (by kernel_rfl) ?_
                  refine stepM hK 50 3 (by kernel_rfl) (.inl rfl) rfl fun a hK => ?_
                  refine stepP hK 51 (.int .i64 1) (by kernel_rfl) (by kernel_rfl) fun a hK => ?_
                  refine stepM hK 3 51 (by kernel_rfl) (.inr rfl) rfl fun a hK => ?_
                  refine region_done hK [(3, .int .i64 1), (17, .bool true), (6, .bool false), (4, .func (.func 54) #[] #[.pointer (some ⟨b1, 0, none⟩)]), (2, .int .i64 0), (1, .pointer (some ⟨b1, 0, none⟩)), (0, Str l)] ⟨rfl, rfl, rfl, rfl, rfl, rfl, rfl, trivial⟩ fun a hK => ?_
                  refine wp_exit (exit_here 0 ?_)
                  refine wp_seq ?_
                  refine region_go (lst := [0, 1]) (by kernel_rfl) ?_
                  refine stepM hK 52 3 (by kernel_rfl) (.inl rfl) rfl fun a hK => ?_
                  refine stepM hK 2 52 (by kernel_rfl) (.inr rfl) rfl fun a hK => ?_
                  refine region_done hK [(2, .int .i64 1), (3, .int .i64 1), (17, .bool true), (6, .bool false), (4, .func (.func 54) #[] #[.pointer (some ⟨b1, 0, none⟩)]), (1, .pointer (some ⟨b1, 0, none⟩)), (0, Str l)] ⟨rfl, rfl, rfl, rfl, rfl, rfl, rfl, trivial⟩ fun a hK => ?_
                  refine wp_ret ?_
                  exact ret_t hK rfl (u := (.int .i64 1)) rfl (⟨congrArg (fun q : Nat => Ending.returned (.int .i64 (q : Int))) (show (1 : Nat) = signLen l by unfold signLen signAt signL; rw [List.find?_cons, h2, List.find?_cons, h3, List.find?_cons, h4, List.find?_cons, h5, List.find?_cons, h6, List.find?_cons, h7, List.find?_cons, h8, List.find?_cons, h9]; try rfl), hM.below⟩)
                · refine stepRet hK hM 23 #[Str [45], .pointer (some ⟨b1, 0, none⟩)] (.bool false) (by kernel_rfl) (run_callE en_lex_sign_1 rfl rfl (by kernel_rfl)) (ret_eq (lex_begins [45] l _ _ ((hM.row 0 rfl).cells 0 1)) (congrArg Value.bool h9)) fun a w hK hM => ?_
                  refine stepM hK 17 23 (by kernel_rfl) (.inr rfl) rfl fun a hK => ?_
                  refine region_done hK [(17, .bool false), (6, .bool false), (4, .func (.func 54) #[] #[.pointer (some ⟨b1, 0, none⟩)]), (3, .int .i64 0), (2, .int .i64 0), (1, .pointer (some ⟨b1, 0, none⟩)), (0, Str l)] ⟨rfl, rfl, rfl, rfl, rfl, rfl, rfl, trivial⟩ fun a hK => ?_
                  refine wp_cond_false (hK.get rfl) ?_
                  refine wp_seq ?_
                  refine region_go (lst := [0, 1, 2]) (by kernel_rfl) ?_
                  refine stepM hK 24 4 (by kernel_rfl) (.inl rfl) rfl fun a hK => ?_
                  rcases Bool.eq_false_or_eq_true (List.isPrefixOf [42] l) with h10 | h10
                  · refine stepRet hK hM 25 #[Str [42], .pointer (some ⟨b1, 0, none⟩)] (.bool true) (by kernel_rfl) (run_callE en_lex_sign_1 rfl rfl (by kernel_rfl)) (ret_eq (lex_begins [42] l _ _ ((hM.row 0 rfl).cells 0 1)) (congrArg Value.bool h10)) fun a w hK hM => ?_
                    refine stepM hK 17 25 (by kernel_rfl) (.inr rfl) rfl fun a hK => ?_
                    refine region_done hK [(17, .bool true), (6, .bool false), (4, .func (.func 54) #[] #[.pointer (some ⟨b1, 0, none⟩)]), (3, .int .i64 0), (2, .int .i64 0), (1, .pointer (some ⟨b1, 0, none⟩)), (0, Str l)] ⟨rfl, rfl, rfl, rfl, rfl, rfl, rfl, trivial⟩ fun a hK => ?_
                    refine wp_cond_true (hK.get rfl) ?_
                    refine wp_skip ?_
                    refine wp_cond_true (hK.get rfl) ?_
                    refine wp_exit (exit_then (exit_past rfl (exit_then (exit_here 2 ?_))))
                    refine wp_seq ?_
                    refine region_go (lst := [0, 1, 2]) (by kernel_rfl) ?_
                    refine stepM hK 50 3 (by kernel_rfl) (.inl rfl) rfl fun a hK => ?_
                    refine stepP hK 51 (.int .i64 1) (by kernel_rfl) (by kernel_rfl) fun a hK => ?_
                    refine stepM hK 3 51 (by kernel_rfl) (.inr rfl) rfl fun a hK => ?_
                    refine region_done hK [(3, .int .i64 1), (17, .bool true), (6, .bool false), (4, .func (.func 54) #[] #[.pointer (some ⟨b1, 0, none⟩)]), (2, .int .i64 0), (1, .pointer (some ⟨b1, 0, none⟩)), (0, Str l)] ⟨rfl, rfl, rfl, rfl, rfl, rfl, rfl, trivial⟩ fun a hK => ?_
                    refine wp_exit (exit_here 0 ?_)
                    refine wp_seq ?_
                    refine region_go (lst := [0, 1]) (by kernel_rfl) ?_
                    refine stepM hK 52 3 (by kernel_rfl) (.inl rfl) rfl fun a hK => ?_
                    refine stepM hK 2 52 (by kernel_rfl) (.inr rfl) rfl fun a hK => ?_
                    refine region_done hK [(2, .int .i64 1), (3, .int .i64 1), (17, .bool true), (6, .bool false), (4, .func (.func 54) #[] #[.pointer (some ⟨b1, 0, none⟩)]), (1, .pointer (some ⟨b1, 0, none⟩)), (0, Str l)] ⟨rfl, rfl, rfl, rfl, rfl, rfl, rfl, trivial⟩ fun a hK => ?_
                    refine wp_ret ?_
                    exact ret_t hK rfl (u := (.int .i64 1)) rfl (⟨congrArg (fun q : Nat => Ending.returned (.int .i64 (q : Int))) (show (1 : Nat) = signLen l by unfold signLen signAt signL; rw [List.find?_cons, h2, List.find?_cons, h3, List.find?_cons, h4, List.find?_cons, h5, List.find?_cons, h6, List.find?_cons, h7, List.find?_cons, h8, List.find?_cons, h9, List.find?_cons, h10]; try rfl), hM.below⟩)
                  · refine stepRet hK hM 25 #[Str [42], .pointer (some ⟨b1, 0, none⟩)] (.bool false) (by kernel_rfl) (run_callE en_lex_sign_1 rfl rfl (by kernel_rfl)) (ret_eq (lex_begins [42] l _ _ ((hM.row 0 rfl).cells 0 1)) (congrArg Value.bool h10)) fun a w hK hM => ?_
                    refine stepM hK 17 25 (by kernel_rfl) (.inr rfl) rfl fun a hK => ?_
                    refine region_done hK [(17, .bool false), (6, .bool false), (4, .func (.func 54) #[] #[.pointer (some ⟨b1, 0, none⟩)]), (3, .int .i64 0), (2, .int .i64 0), (1, .pointer (some ⟨b1, 0, none⟩)), (0, Str l)] ⟨rfl, rfl, rfl, rfl, rfl, rfl, rfl, trivial⟩ fun a hK => ?_
                    refine wp_cond_false (hK.get rfl) ?_
                    refine wp_seq ?_
                    refine region_go (lst := [0, 1, 2]) (by kernel_rfl) ?_
                    refine stepM hK 26 4 (by kernel_rfl) (.inl rfl) rfl fun a hK => ?_
                    rcases Bool.eq_false_or_eq_true (List.isPrefixOf [38] l) with h11 | h11
                    · refine stepRet hK hM 27 #[Str [38], .pointer (some ⟨b1, 0, none⟩)] (.bool true) (by kernel_rfl) (run_callE en_lex_sign_1 rfl rfl (by kernel_rfl)) (ret_eq (lex_begins [38] l _ _ ((hM.row 0 rfl).cells 0 1)) (congrArg Value.bool h11)) fun a w hK hM => ?_
                      refine stepM hK 17 27 (by kernel_rfl) (.inr rfl) rfl fun a hK => ?_
                      refine region_done hK [(17, .bool true), (6, .bool false), (4, .func (.func 54) #[] #[.pointer (some ⟨b1, 0, none⟩)]), (3, .int .i64 0), (2, .int .i64 0), (1, .pointer (some ⟨b1, 0, none⟩)), (0, Str l)] ⟨rfl, rfl, rfl, rfl, rfl, rfl, rfl, trivial⟩ fun a hK => ?_
                      refine wp_cond_true (hK.get rfl) ?_
                      refine wp_skip ?_
                      refine wp_cond_true (hK.get rfl) ?_
                      refine wp_exit (exit_then (exit_past rfl (exit_then (exit_here 2 ?_))))
                      refine wp_seq ?_
                      refine region_go (lst := [0, 1, 2]) (by kernel_rfl) ?_
                      refine stepM hK 50 3 (by kernel_rfl) (.inl rfl) rfl fun a hK => ?_
                      refine stepP hK 51 (.int .i64 1) (by kernel_rfl) (by kernel_rfl) fun a hK => ?_
                      refine stepM hK 3 51 (by kernel_rfl) (.inr rfl) rfl fun a hK => ?_
                      refine region_done hK [(3, .int .i64 1), (17, .bool true), (6, .bool false), (4, .func (.func 54) #[] #[.pointer (some ⟨b1, 0, none⟩)]), (2, .int .i64 0), (1, .pointer (some ⟨b1, 0, none⟩)), (0, Str l)] ⟨rfl, rfl, rfl, rfl, rfl, rfl, rfl, trivial⟩ fun a hK => ?_
                      refine wp_exit (exit_here 0 ?_)
                      refine wp_seq ?_
                      refine region_go (lst := [0, 1]) (by kernel_rfl) ?_
                      refine stepM hK 52 3 (by kernel_rfl) (.inl rfl) rfl fun a hK => ?_
                      refine stepM hK 2 52 (by kernel_rfl) (.inr rfl) rfl fun a hK => ?_
                      refine region_done hK [(2, .int .i64 1), (3, .int .i64 1), (17, .bool true), (6, .bool false), (4, .func (.func 54) #[] #[.pointer (some ⟨b1, 0, none⟩)]), (1, .pointer (some ⟨b1, 0, none⟩)), (0, Str l)] ⟨rfl, rfl, rfl, rfl, rfl, rfl, rfl, trivial⟩ fun a hK => ?_
                      refine wp_ret ?_
                      exact ret_t hK rfl (u := (.int .i64 1)) rfl (⟨congrArg (fun q : Nat => Ending.returned (.int .i64 (q : Int))) (show (1 : Nat) = signLen l by unfold signLen signAt signL; rw [List.find?_cons, h2, List.find?_cons, h3, List.find?_cons, h4, List.find?_cons, h5, List.find?_cons, h6, List.find?_cons, h7, List.find?_cons, h8, List.find?_cons, h9, List.find?_cons, h10, List.find?_cons, h11]; try rfl), hM.below⟩)
                    · refine stepRet hK hM 27 #[Str [38], .pointer (some ⟨b1, 0, none⟩)] (.bool false) (by kernel_rfl) (run_callE en_lex_sign_1 rfl rfl (by kernel_rfl)) (ret_eq (lex_begins [38] l _ _ ((hM.row 0 rfl).cells 0 1)) (congrArg Value.bool h11)) fun a w hK hM => ?_
                      refine stepM hK 17 27 (by kernel_rfl) (.inr rfl) rfl fun a hK => ?_
                      refine region_done hK [(17, .bool false), (6, .bool false), (4, .func (.func 54) #[] #[.pointer (some ⟨b1, 0, none⟩)]), (3, .int .i64 0), (2, .int .i64 0), (1, .pointer (some ⟨b1, 0, none⟩)), (0, Str l)] ⟨rfl, rfl, rfl, rfl, rfl, rfl, rfl, trivial⟩ fun a hK => ?_
                      refine wp_cond_false (hK.get rfl) ?_
                      refine wp_seq ?_
                      refine region_go (lst := [0, 1, 2]) (by kernel_rfl) ?_
                      refine stepM hK 28 4 (by kernel_rfl) (.inl rfl) rfl fun a hK => ?_
                      rcases Bool.eq_false_or_eq_true (List.isPrefixOf [124] l) with h12 | h12
                      · refine stepRet hK hM 29 #[Str [124], .pointer (some ⟨b1, 0, none⟩)] (.bool true) (by kernel_rfl) (run_callE en_lex_sign_1 rfl rfl (by kernel_rfl)) (ret_eq (lex_begins [124] l _ _ ((hM.row 0 rfl).cells 0 1)) (congrArg Value.bool h12)) fun a w hK hM => ?_
                        refine stepM hK 17 29 (by kernel_rfl) (.inr rfl) rfl fun a hK => ?_
                        refine region_done hK [(17, .bool true), (6, .bool false), (4, .func (.func 54) #[] #[.pointer (some ⟨b1, 0, none⟩)]), (3, .int .i64 0), (2, .int .i64 0), (1, .pointer (some ⟨b1, 0, none⟩)), (0, Str l)] ⟨rfl, rfl, rfl, rfl, rfl, rfl, rfl, trivial⟩ fun a hK => ?_
                        refine wp_cond_true (hK.get rfl) ?_
                        refine wp_skip ?_
                        refine wp_cond_true (hK.get rfl) ?_
                        refine wp_exit (exit_then (exit_past rfl (exit_then (exit_here 2 ?_))))
                        refine wp_seq ?_
                        refine region_go (lst := [0, 1, 2]) (by kernel_rfl) ?_
                        refine stepM hK 50 3 (by kernel_rfl) (.inl rfl) rfl fun a hK => ?_
                        refine stepP hK 51 (.int .i64 1) (by kernel_rfl) (by kernel_rfl) fun a hK => ?_
                        refine stepM hK 3 51 (by kernel_rfl) (.inr rfl) rfl fun a hK => ?_
                        refine region_done hK [(3, .int .i64 1), (17, .bool true), (6, .bool false), (4, .func (.func 54) #[] #[.pointer (some ⟨b1, 0, none⟩)]), (2, .int .i64 0), (1, .pointer (some ⟨b1, 0, none⟩)), (0, Str l)] ⟨rfl, rfl, rfl, rfl, rfl, rfl, rfl, trivial⟩ fun a hK => ?_
                        refine wp_exit (exit_here 0 ?_)
                        refine wp_seq ?_
                        refine region_go (lst := [0, 1]) (by kernel_rfl) ?_
                        refine stepM hK 52 3 (by kernel_rfl) (.inl rfl) rfl fun a hK => ?_
                        refine stepM hK 2 52 (by kernel_rfl) (.inr rfl) rfl fun a hK => ?_
                        refine region_done hK [(2, .int .i64 1), (3, .int .i64 1), (17, .bool true), (6, .bool false), (4, .func (.func 54) #[] #[.pointer (some ⟨b1, 0, none⟩)]), (1, .pointer (some ⟨b1, 0, none⟩)), (0, Str l)] ⟨rfl, rfl, rfl, rfl, rfl, rfl, rfl, trivial⟩ fun a hK => ?_
                        refine wp_ret ?_
                        exact ret_t hK rfl (u := (.int .i64 1)) rfl (⟨congrArg (fun q : Nat => Ending.returned (.int .i64 (q : Int))) (show (1 : Nat) = signLen l by unfold signLen signAt signL; rw [List.find?_cons, h2, List.find?_cons, h3, List.find?_cons, h4, List.find?_cons, h5, List.find?_cons, h6, List.find?_cons, h7, List.find?_cons, h8, List.find?_cons, h9, List.find?_cons, h10, List.find?_cons, h11, List.find?_cons, h12]; try rfl), hM.below⟩)
                      · refine stepRet hK hM 29 #[Str [124], .pointer (some ⟨b1, 0, none⟩)] (.bool false) (by kernel_rfl) (run_callE en_lex_sign_1 rfl rfl (by kernel_rfl)) (ret_eq (lex_begins [124] l _ _ ((hM.row 0 rfl).cells 0 1)) (congrArg Value.bool h12)) fun a w hK hM => ?_
                        refine stepM hK 17 29 (by kernel_rfl) (.inr rfl) rfl fun a hK => ?_
                        refine region_done hK [(17, .bool false), (6, .bool false), (4, .func (.func 54) #[] #[.pointer (some ⟨b1, 0, none⟩)]), (3, .int .i64 0), (2, .int .i64 0), (1, .pointer (some ⟨b1, 0, none⟩)), (0, Str l)] ⟨rfl, rfl, rfl, rfl, rfl, rfl, rfl, trivial⟩ fun a hK => ?_
                        refine wp_cond_false (hK.get rfl) ?_
                        refine wp_seq ?_
                        refine region_go (lst := [0, 1, 2]) (by kernel_rfl) ?_
                        refine stepM hK 30 4 (by kernel_rfl) (.inl rfl) rfl fun a hK => ?_
                        rcases Bool.eq_false_or_eq_true (List.isPrefixOf [94] l) with h13 | h13
                        · refine stepRet hK hM 31 #[Str [94], .pointer (some ⟨b1, 0, none⟩)] (.bool true) (by kernel_rfl) (run_callE en_lex_sign_1 rfl rfl (by kernel_rfl)) (ret_eq (lex_begins [94] l _ _ ((hM.row 0 rfl).cells 0 1)) (congrArg Value.bool h13)) fun a w hK hM => ?_
                          refine stepM hK 17 31 (by kernel_rfl) (.inr rfl) rfl fun a hK => ?_
                          refine region_done hK [(17, .bool true), (6, .bool false), (4, .func (.func 54) #[] #[.pointer (some ⟨b1, 0, none⟩)]), (3, .int .i64 0), (2, .int .i64 0), (1, .pointer (some ⟨b1, 0, none⟩)), (0, Str l)] ⟨rfl, rfl, rfl, rfl, rfl, rfl, rfl, trivial⟩ fun a hK => ?_
                          refine wp_cond_true (hK.get rfl) ?_
                          refine wp_skip ?_
                          refine wp_cond_true (hK.get rfl) ?_
                          refine wp_exit (exit_then (exit_past rfl (exit_then (exit_here 2 ?_))))
                          refine wp_seq ?_
                          refine region_go (lst := [0, 1, 2]) (by kernel_rfl) ?_
                          refine stepM hK 50 3 (by kernel_rfl) (.inl rfl) rfl fun a hK => ?_
                          refine stepP hK 51 (.int .i64 1) (by kernel_rfl) (by kernel_rfl) fun a hK => ?_
                          refine stepM hK 3 51 (by kernel_rfl) (.inr rfl) rfl fun a hK => ?_
                          refine region_done hK [(3, .int .i64 1), (17, .bool true), (6, .bool false), (4, .func (.func 54) #[] #[.pointer (some ⟨b1, 0, none⟩)]), (2, .int .i64 0), (1, .pointer (some ⟨b1, 0, none⟩)), (0, Str l)] ⟨rfl, rfl, rfl, rfl, rfl, rfl, rfl, trivial⟩ fun a hK => ?_
                          refine wp_exit (exit_here 0 ?_)
                          refine wp_seq ?_
                          refine region_go (lst := [0, 1]) (by kernel_rfl) ?_
                          refine stepM hK 52 3 (by kernel_rfl) (.inl rfl) rfl fun a hK => ?_
                          refine stepM hK 2 52 (by kernel_rfl) (.inr rfl) rfl fun a hK => ?_
                          refine region_done hK [(2, .int .i64 1), (3, .int .i64 1), (17, .bool true), (6, .bool false), (4, .func (.func 54) #[] #[.pointer (some ⟨b1, 0, none⟩)]), (1, .pointer (some ⟨b1, 0, none⟩)), (0, Str l)] ⟨rfl, rfl, rfl, rfl, rfl, rfl, rfl, trivial⟩ fun a hK => ?_
                          refine wp_ret ?_
                          exact ret_t hK rfl (u := (.int .i64 1)) rfl (⟨congrArg (fun q : Nat => Ending.returned (.int .i64 (q : Int))) (show (1 : Nat) = signLen l by unfold signLen signAt signL; rw [List.find?_cons, h2, List.find?_cons, h3, List.find?_cons, h4, List.find?_cons, h5, List.find?_cons, h6, List.find?_cons, h7, List.find?_cons, h8, List.find?_cons, h9, List.find?_cons, h10, List.find?_cons, h11, List.find?_cons, h12, List.find?_cons, h13]; try rfl), hM.below⟩)
                        · refine stepRet hK hM 31 #[Str [94], .pointer (some ⟨b1, 0, none⟩)] (.bool false) (by kernel_rfl) (run_callE en_lex_sign_1 rfl rfl (by kernel_rfl)) (ret_eq (lex_begins [94] l _ _ ((hM.row 0 rfl).cells 0 1)) (congrArg Value.bool h13)) fun a w hK hM => ?_
                          refine stepM hK 17 31 (by kernel_rfl) (.inr rfl) rfl fun a hK => ?_
                          refine region_done hK [(17, .bool false), (6, .bool false), (4, .func (.func 54) #[] #[.pointer (some ⟨b1, 0, none⟩)]), (3, .int .i64 0), (2, .int .i64 0), (1, .pointer (some ⟨b1, 0, none⟩)), (0, Str l)] ⟨rfl, rfl, rfl, rfl, rfl, rfl, rfl, trivial⟩ fun a hK => ?_
                          refine wp_cond_false (hK.get rfl) ?_
                          refine wp_seq ?_
                          refine region_go (lst := [0, 1, 2]) (by kernel_rfl) ?_
                          refine stepM hK 32 4 (by kernel_rfl) (.inl rfl) rfl fun a hK => ?_
                          rcases Bool.eq_false_or_eq_true (List.isPrefixOf [33] l) with h14 | h14
                          · refine stepRet hK hM 33 #[Str [33], .pointer (some ⟨b1, 0, none⟩)] (.bool true) (by kernel_rfl) (run_callE en_lex_sign_1 rfl rfl (by kernel_rfl)) (ret_eq (lex_begins [33] l _ _ ((hM.row 0 rfl).cells 0 1)) (congrArg Value.bool h14)) fun a w hK hM => ?_
                            refine stepM hK 17 33 (by kernel_rfl) (.inr rfl) rfl fun a hK => ?_
                            refine region_done hK [(17, .bool true), (6, .bool false), (4, .func (.func 54) #[] #[.pointer (some ⟨b1, 0, none⟩)]), (3, .int .i64 0), (2, .int .i64 0), (1, .pointer (some ⟨b1, 0, none⟩)), (0, Str l)] ⟨rfl, rfl, rfl, rfl, rfl, rfl, rfl, trivial⟩ fun a hK => ?_
                            refine wp_cond_true (hK.get rfl) ?_
                            refine wp_skip ?_
                            refine wp_cond_true (hK.get rfl) ?_
                            refine wp_exit (exit_then (exit_past rfl (exit_then (exit_here 2 ?_))))
                            refine wp_seq ?_
                            refine region_go (lst := [0, 1, 2]) (by kernel_rfl) ?_
                            refine stepM hK 50 3 (by kernel_rfl) (.inl rfl) rfl fun a hK => ?_
                            refine stepP hK 51 (.int .i64 1) (by kernel_rfl) (by kernel_rfl) fun a hK => ?_
                            refine stepM hK 3 51 (by kernel_rfl) (.inr rfl) rfl fun a hK => ?_
                            refine region_done hK [(3, .int .i64 1), (17, .bool true), (6, .bool false), (4, .func (.func 54) #[] #[.pointer (some ⟨b1, 0, none⟩)]), (2, .int .i64 0), (1, .pointer (some ⟨b1, 0, none⟩)), (0, Str l)] ⟨rfl, rfl, rfl, rfl, rfl, rfl, rfl, trivial⟩ fun a hK => ?_
                            refine wp_exit (exit_here 0 ?_)
                            refine wp_seq ?_
                            refine region_go (lst := [0, 1]) (by kernel_rfl) ?_
                            refine stepM hK 52 3 (by kernel_rfl) (.inl rfl) rfl fun a hK => ?_
                            refine stepM hK 2 52 (by kernel_rfl) (.inr rfl) rfl fun a hK => ?_
                            refine region_done hK [(2, .int .i64 1), (3, .int .i64 1), (17, .bool true), (6, .bool false), (4, .func (.func 54) #[] #[.pointer (some ⟨b1, 0, none⟩)]), (1, .pointer (some ⟨b1, 0, none⟩)), (0, Str l)] ⟨rfl, rfl, rfl, rfl, rfl, rfl, rfl, trivial⟩ fun a hK => ?_
                            refine wp_ret ?_
                            exact ret_t hK rfl (u := (.int .i64 1)) rfl (⟨congrArg (fun q : Nat => Ending.returned (.int .i64 (q : Int))) (show (1 : Nat) = signLen l by unfold signLen signAt signL; rw [List.find?_cons, h2, List.find?_cons, h3, List.find?_cons, h4, List.find?_cons, h5, List.find?_cons, h6, List.find?_cons, h7, List.find?_cons, h8, List.find?_cons, h9, List.find?_cons, h10, List.find?_cons, h11, List.find?_cons, h12, List.find?_cons, h13, List.find?_cons, h14]; try rfl), hM.below⟩)
                          · refine stepRet hK hM 33 #[Str [33], .pointer (some ⟨b1, 0, none⟩)] (.bool false) (by kernel_rfl) (run_callE en_lex_sign_1 rfl rfl (by kernel_rfl)) (ret_eq (lex_begins [33] l _ _ ((hM.row 0 rfl).cells 0 1)) (congrArg Value.bool h14)) fun a w hK hM => ?_
                            refine stepM hK 17 33 (by kernel_rfl) (.inr rfl) rfl fun a hK => ?_
                            refine region_done hK [(17, .bool false), (6, .bool false), (4, .func (.func 54) #[] #[.pointer (some ⟨b1, 0, none⟩)]), (3, .int .i64 0), (2, .int .i64 0), (1, .pointer (some ⟨b1, 0, none⟩)), (0, Str l)] ⟨rfl, rfl, rfl, rfl, rfl, rfl, rfl, trivial⟩ fun a hK => ?_
                            refine wp_cond_false (hK.get rfl) ?_
                            refine wp_seq ?_
                            refine region_go (lst := [0, 1, 2]) (by kernel_rfl) ?_
                            refine stepM hK 34 4 (by kernel_rfl) (.inl rfl) rfl fun a hK => ?_
                            rcases Bool.eq_false_or_eq_true (List.isPrefixOf [61] l) with h15 | h15
                            · refine stepRet hK hM 35 #[Str [61], .pointer (some ⟨b1, 0, none⟩)] (.bool true) (by kernel_rfl) (run_callE en_lex_sign_1 rfl rfl (by kernel_rfl)) (ret_eq (lex_begins [61] l _ _ ((hM.row 0 rfl).cells 0 1)) (congrArg Value.bool h15)) fun a w hK hM => ?_
                              refine stepM hK 17 35 (by kernel_rfl) (.inr rfl) rfl fun a hK => ?_
                              refine region_done hK [(17, .bool true), (6, .bool false), (4, .func (.func 54) #[] #[.pointer (some ⟨b1, 0, none⟩)]), (3, .int .i64 0), (2, .int .i64 0), (1, .pointer (some ⟨b1, 0, none⟩)), (0, Str l)] ⟨rfl, rfl, rfl, rfl, rfl, rfl, rfl, trivial⟩ fun a hK => ?_
                              refine wp_cond_true (hK.get rfl) ?_
                              refine wp_skip ?_
                              refine wp_cond_true (hK.get rfl) ?_
                              refine wp_exit (exit_then (exit_past rfl (exit_then (exit_here 2 ?_))))
                              refine wp_seq ?_
                              refine region_go (lst := [0, 1, 2]) (by kernel_rfl) ?_
                              refine stepM hK 50 3 (by kernel_rfl) (.inl rfl) rfl fun a hK => ?_
                              refine stepP hK 51 (.int .i64 1) (by kernel_rfl) (by kernel_rfl) fun a hK => ?_
                              refine stepM hK 3 51 (by kernel_rfl) (.inr rfl) rfl fun a hK => ?_
                              refine region_done hK [(3, .int .i64 1), (17, .bool true), (6, .bool false), (4, .func (.func 54) #[] #[.pointer (some ⟨b1, 0, none⟩)]), (2, .int .i64 0), (1, .pointer (some ⟨b1, 0, none⟩)), (0, Str l)] ⟨rfl, rfl, rfl, rfl, rfl, rfl, rfl, trivial⟩ fun a hK => ?_
                              refine wp_exit (exit_here 0 ?_)
                              refine wp_seq ?_
                              refine region_go (lst := [0, 1]) (by kernel_rfl) ?_
                              refine stepM hK 52 3 (by kernel_rfl) (.inl rfl) rfl fun a hK => ?_
                              refine stepM hK 2 52 (by kernel_rfl) (.inr rfl) rfl fun a hK => ?_
                              refine region_done hK [(2, .int .i64 1), (3, .int .i64 1), (17, .bool true), (6, .bool false), (4, .func (.func 54) #[] #[.pointer (some ⟨b1, 0, none⟩)]), (1, .pointer (some ⟨b1, 0, none⟩)), (0, Str l)] ⟨rfl, rfl, rfl, rfl, rfl, rfl, rfl, trivial⟩ fun a hK => ?_
                              refine wp_ret ?_
                              exact ret_t hK rfl (u := (.int .i64 1)) rfl (⟨congrArg (fun q : Nat => Ending.returned (.int .i64 (q : Int))) (show (1 : Nat) = signLen l by unfold signLen signAt signL; rw [List.find?_cons, h2, List.find?_cons, h3, List.find?_cons, h4, List.find?_cons, h5, List.find?_cons, h6, List.find?_cons, h7, List.find?_cons, h8, List.find?_cons, h9, List.find?_cons, h10, List.find?_cons, h11, List.find?_cons, h12, List.find?_cons, h13, List.find?_cons, h14, List.find?_cons, h15]; try rfl), hM.below⟩)
                            · refine stepRet hK hM 35 #[Str [61], .pointer (some ⟨b1, 0, none⟩)] (.bool false) (by kernel_rfl) (run_callE en_lex_sign_1 rfl rfl (by kernel_rfl)) (ret_eq (lex_begins [61] l _ _ ((hM.row 0 rfl).cells 0 1)) (congrArg Value.bool h15)) fun a w hK hM => ?_
                              refine stepM hK 17 35 (by kernel_rfl) (.inr rfl) rfl fun a hK => ?_
                              refine region_done hK [(17, .bool false), (6, .bool false), (4, .func (.func 54) #[] #[.pointer (some ⟨b1, 0, none⟩)]), (3, .int .i64 0), (2, .int .i64 0), (1, .pointer (some ⟨b1, 0, none⟩)), (0, Str l)] ⟨rfl, rfl, rfl, rfl, rfl, rfl, rfl, trivial⟩ fun a hK => ?_
                              refine wp_cond_false (hK.get rfl) ?_
                              refine wp_seq ?_
                              refine region_go (lst := [0, 1, 2]) (by kernel_rfl) ?_
                              refine stepM hK 36 4 (by kernel_rfl) (.inl rfl) rfl fun a hK => ?_
                              rcases Bool.eq_false_or_eq_true (List.isPrefixOf [40] l) with h16 | h16
                              · refine stepRet hK hM 37 #[Str [40], .pointer (some ⟨b1, 0, none⟩)] (.bool true) (by kernel_rfl) (run_callE en_lex_sign_1 rfl rfl (by kernel_rfl)) (ret_eq (lex_begins [40] l _ _ ((hM.row 0 rfl).cells 0 1)) (congrArg Value.bool h16)) fun a w hK hM => ?_
                                refine stepM hK 17 37 (by kernel_rfl) (.inr rfl) rfl fun a hK => ?_
                                refine region_done hK [(17, .bool true), (6, .bool false), (4, .func (.func 54) #[] #[.pointer (some ⟨b1, 0, none⟩)]), (3, .int .i64 0), (2, .int .i64 0), (1, .pointer (some ⟨b1, 0, none⟩)), (0, Str l)] ⟨rfl, rfl, rfl, rfl, rfl, rfl, rfl, trivial⟩ fun a hK => ?_
                                refine wp_cond_true (hK.get rfl) ?_
                                refine wp_skip ?_
                                refine wp_cond_true (hK.get rfl) ?_
                                refine wp_exit (exit_then (exit_past rfl (exit_then (exit_here 2 ?_))))
                                refine wp_seq ?_
                                refine region_go (lst := [0, 1, 2]) (by kernel_rfl) ?_
                                refine stepM hK 50 3 (by kernel_rfl) (.inl rfl) rfl fun a hK => ?_
                                refine stepP hK 51 (.int .i64 1) (by kernel_rfl) (by kernel_rfl) fun a hK => ?_
                                refine stepM hK 3 51 (by kernel_rfl) (.inr rfl) rfl fun a hK => ?_
                                refine region_done hK [(3, .int .i64 1), (17, .bool true), (6, .bool false), (4, .func (.func 54) #[] #[.pointer (some ⟨b1, 0, none⟩)]), (2, .int .i64 0), (1, .pointer (some ⟨b1, 0, none⟩)), (0, Str l)] ⟨rfl, rfl, rfl, rfl, rfl, rfl, rfl, trivial⟩ fun a hK => ?_
                                refine wp_exit (exit_here 0 ?_)
                                refine wp_seq ?_
                                refine region_go (lst := [0, 1]) (by kernel_rfl) ?_
                                refine stepM hK 52 3 (by kernel_rfl) (.inl rfl) rfl fun a hK => ?_
                                refine stepM hK 2 52 (by kernel_rfl) (.inr rfl) rfl fun a hK => ?_
                                refine region_done hK [(2, .int .i64 1), (3, .int .i64 1), (17, .bool true), (6, .bool false), (4, .func (.func 54) #[] #[.pointer (some ⟨b1, 0, none⟩)]), (1, .pointer (some ⟨b1, 0, none⟩)), (0, Str l)] ⟨rfl, rfl, rfl, rfl, rfl, rfl, rfl, trivial⟩ fun a hK => ?_
                                refine wp_ret ?_
                                exact ret_t hK rfl (u := (.int .i64 1)) rfl (⟨congrArg (fun q : Nat => Ending.returned (.int .i64 (q : Int))) (show (1 : Nat) = signLen l by unfold signLen signAt signL; rw [List.find?_cons, h2, List.find?_cons, h3, List.find?_cons, h4, List.find?_cons, h5, List.find?_cons, h6, List.find?_cons, h7, List.find?_cons, h8, List.find?_cons, h9, List.find?_cons, h10, List.find?_cons, h11, List.find?_cons, h12, List.find?_cons, h13, List.find?_cons, h14, List.find?_cons, h15, List.find?_cons, h16]; try rfl), hM.below⟩)
                              · refine stepRet hK hM 37 #[Str [40], .pointer (some ⟨b1, 0, none⟩)] (.bool false) (by kernel_rfl) (run_callE en_lex_sign_1 rfl rfl (by kernel_rfl)) (ret_eq (lex_begins [40] l _ _ ((hM.row 0 rfl).cells 0 1)) (congrArg Value.bool h16)) fun a w hK hM => ?_
                                refine stepM hK 17 37 (by kernel_rfl) (.inr rfl) rfl fun a hK => ?_
                                refine region_done hK [(17, .bool false), (6, .bool false), (4, .func (.func 54) #[] #[.pointer (some ⟨b1, 0, none⟩)]), (3, .int .i64 0), (2, .int .i64 0), (1, .pointer (some ⟨b1, 0, none⟩)), (0, Str l)] ⟨rfl, rfl, rfl, rfl, rfl, rfl, rfl, trivial⟩ fun a hK => ?_
                                refine wp_cond_false (hK.get rfl) ?_
                                refine wp_seq ?_
                                refine region_go (lst := [0, 1, 2]) (by kernel_rfl) ?_
                                refine stepM hK 38 4 (by kernel_rfl) (.inl rfl) rfl fun a hK => ?_
                                rcases Bool.eq_false_or_eq_true (List.isPrefixOf [41] l) with h17 | h17
                                · refine stepRet hK hM 39 #[Str [41], .pointer (some ⟨b1, 0, none⟩)] (.bool true) (by kernel_rfl) (run_callE en_lex_sign_1 rfl rfl (by kernel_rfl)) (ret_eq (lex_begins [41] l _ _ ((hM.row 0 rfl).cells 0 1)) (congrArg Value.bool h17)) fun a w hK hM => ?_
                                  refine stepM hK 17 39 (by kernel_rfl) (.inr rfl) rfl fun a hK => ?_
                                  refine region_done hK [(17, .bool true), (6, .bool false), (4, .func (.func 54) #[] #[.pointer (some ⟨b1, 0, none⟩)]), (3, .int .i64 0), (2, .int .i64 0), (1, .pointer (some ⟨b1, 0, none⟩)), (0, Str l)] ⟨rfl, rfl, rfl, rfl, rfl, rfl, rfl, trivial⟩ fun a hK => ?_
                                  refine wp_cond_true (hK.get rfl) ?_
                                  refine wp_skip ?_
                                  refine wp_cond_true (hK.get rfl) ?_
                                  refine wp_exit (exit_then (exit_past rfl (exit_then (exit_here 2 ?_))))
                                  refine wp_seq ?_
                                  refine region_go (lst := [0, 1, 2]) (by kernel_rfl) ?_
                                  refine stepM hK 50 3 (by kernel_rfl) (.inl rfl) rfl fun a hK => ?_
                                  refine stepP hK 51 (.int .i64 1) (by kernel_rfl) (by kernel_rfl) fun a hK => ?_
                                  refine stepM hK 3 51 (by kernel_rfl) (.inr rfl) rfl fun a hK => ?_
                                  refine region_done hK [(3, .int .i64 1), (17, .bool true), (6, .bool false), (4, .func (.func 54) #[] #[.pointer (some ⟨b1, 0, none⟩)]), (2, .int .i64 0), (1, .pointer (some ⟨b1, 0, none⟩)), (0, Str l)] ⟨rfl, rfl, rfl, rfl, rfl, rfl, rfl, trivial⟩ fun a hK => ?_
                                  refine wp_exit (exit_here 0 ?_)
                                  refine wp_seq ?_
                                  refine region_go (lst := [0, 1]) (by kernel_rfl) ?_
                                  refine stepM hK 52 3 (by kernel_rfl) (.inl rfl) rfl fun a hK => ?_
                                  refine stepM hK 2 52 (by kernel_rfl) (.inr rfl) rfl fun a hK => ?_
                                  refine region_done hK [(2, .int .i64 1), (3, .int .i64 1), (17, .bool true), (6, .bool false), (4, .func (.func 54) #[] #[.pointer (some ⟨b1, 0, none⟩)]), (1, .pointer (some ⟨b1, 0, none⟩)), (0, Str l)] ⟨rfl, rfl, rfl, rfl, rfl, rfl, rfl, trivial⟩ fun a hK => ?_
                                  refine wp_ret ?_
                                  exact ret_t hK rfl (u := (.int .i64 1)) rfl (⟨congrArg (fun q : Nat => Ending.returned (.int .i64 (q : Int))) (show (1 : Nat) = signLen l by unfold signLen signAt signL; rw [List.find?_cons, h2, List.find?_cons, h3, List.find?_cons, h4, List.find?_cons, h5, List.find?_cons, h6, List.find?_cons, h7, List.find?_cons, h8, List.find?_cons, h9, List.find?_cons, h10, List.find?_cons, h11, List.find?_cons, h12, List.find?_cons, h13, List.find?_cons, h14, List.find?_cons, h15, List.find?_cons, h16, List.find?_cons, h17]; try rfl), hM.below⟩)
                                · refine stepRet hK hM 39 #[Str [41], .pointer (some ⟨b1, 0, none⟩)] (.bool false) (by kernel_rfl) (run_callE en_lex_sign_1 rfl rfl (by kernel_rfl)) (ret_eq (lex_begins [41] l _ _ ((hM.row 0 rfl).cells 0 1)) (congrArg Value.bool h17)) fun a w hK hM => ?_
                                  refine stepM hK 17 39 (by kernel_rfl) (.inr rfl) rfl fun a hK => ?_
                                  refine region_done hK [(17, .bool false), (6, .bool false), (4, .func (.func 54) #[] #[.pointer (some ⟨b1, 0, none⟩)]), (3, .int .i64 0), (2, .int .i64 0), (1, .pointer (some ⟨b1, 0, none⟩)), (0, Str l)] ⟨rfl, rfl, rfl, rfl, rfl, rfl, rfl, trivial⟩ fun a hK => ?_
                                  refine wp_cond_false (hK.get rfl) ?_
                                  refine wp_seq ?_
                                  refine region_go (lst := [0, 1, 2]) (by kernel_rfl) ?_
                                  refine stepM hK 40 4 (by kernel_rfl) (.inl rfl) rfl fun a hK => ?_
                                  rcases Bool.eq_false_or_eq_true (List.isPrefixOf [123] l) with h18 | h18
                                  · refine stepRet hK hM 41 #[Str [123], .pointer (some ⟨b1, 0, none⟩)] (.bool true) (by kernel_rfl) (run_callE en_lex_sign_1 rfl rfl (by kernel_rfl)) (ret_eq (lex_begins [123] l _ _ ((hM.row 0 rfl).cells 0 1)) (congrArg Value.bool h18)) fun a w hK hM => ?_
                                    refine stepM hK 17 41 (by kernel_rfl) (.inr rfl) rfl fun a hK => ?_
                                    refine region_done hK [(17, .bool true), (6, .bool false), (4, .func (.func 54) #[] #[.pointer (some ⟨b1, 0, none⟩)]), (3, .int .i64 0), (2, .int .i64 0), (1, .pointer (some ⟨b1, 0, none⟩)), (0, Str l)] ⟨rfl, rfl, rfl, rfl, rfl, rfl, rfl, trivial⟩ fun a hK => ?_
                                    refine wp_cond_true (hK.get rfl) ?_
                                    refine wp_skip ?_
                                    refine wp_cond_true (hK.get rfl) ?_
                                    refine wp_exit (exit_then (exit_past rfl (exit_then (exit_here 2 ?_))))
                                    refine wp_seq ?_
                                    refine region_go (lst := [0, 1, 2]) (by kernel_rfl) ?_
                                    refine stepM hK 50 3 (by kernel_rfl) (.inl rfl) rfl fun a hK => ?_
                                    refine stepP hK 51 (.int .i64 1) (by kernel_rfl) (by kernel_rfl) fun a hK => ?_
                                    refine stepM hK 3 51 (by kernel_rfl) (.inr rfl) rfl fun a hK => ?_
                                    refine region_done hK [(3, .int .i64 1), (17, .bool true), (6, .bool false), (4, .func (.func 54) #[] #[.pointer (some ⟨b1, 0, none⟩)]), (2, .int .i64 0), (1, .pointer (some ⟨b1, 0, none⟩)), (0, Str l)] ⟨rfl, rfl, rfl, rfl, rfl, rfl, rfl, trivial⟩ fun a hK => ?_
                                    refine wp_exit (exit_here 0 ?_)
                                    refine wp_seq ?_
                                    refine region_go (lst := [0, 1]) (by kernel_rfl) ?_
                                    refine stepM hK 52 3 (by kernel_rfl) (.inl rfl) rfl fun a hK => ?_
                                    refine stepM hK 2 52 (by kernel_rfl) (.inr rfl) rfl fun a hK => ?_
                                    refine region_done hK [(2, .int .i64 1), (3, .int .i64 1), (17, .bool true), (6, .bool false), (4, .func (.func 54) #[] #[.pointer (some ⟨b1, 0, none⟩)]), (1, .pointer (some ⟨b1, 0, none⟩)), (0, Str l)] ⟨rfl, rfl, rfl, rfl, rfl, rfl, rfl, trivial⟩ fun a hK => ?_
                                    refine wp_ret ?_
                                    exact ret_t hK rfl (u := (.int .i64 1)) rfl (⟨congrArg (fun q : Nat => Ending.returned (.int .i64 (q : Int))) (show (1 : Nat) = signLen l by unfold signLen signAt signL; rw [List.find?_cons, h2, List.find?_cons, h3, List.find?_cons, h4, List.find?_cons, h5, List.find?_cons, h6, List.find?_cons, h7, List.find?_cons, h8, List.find?_cons, h9, List.find?_cons, h10, List.find?_cons, h11, List.find?_cons, h12, List.find?_cons, h13, List.find?_cons, h14, List.find?_cons, h15, List.find?_cons, h16, List.find?_cons, h17, List.find?_cons, h18]; try rfl), hM.below⟩)
                                  · refine stepRet hK hM 41 #[Str [123], .pointer (some ⟨b1, 0, none⟩)] (.bool false) (by kernel_rfl) (run_callE en_lex_sign_1 rfl rfl (by kernel_rfl)) (ret_eq (lex_begins [123] l _ _ ((hM.row 0 rfl).cells 0 1)) (congrArg Value.bool h18)) fun a w hK hM => ?_
                                    refine stepM hK 17 41 (by kernel_rfl) (.inr rfl) rfl fun a hK => ?_
                                    refine region_done hK [(17, .bool false), (6, .bool false), (4, .func (.func 54) #[] #[.pointer (some ⟨b1, 0, none⟩)]), (3, .int .i64 0), (2, .int .i64 0), (1, .pointer (some ⟨b1, 0, none⟩)), (0, Str l)] ⟨rfl, rfl, rfl, rfl, rfl, rfl, rfl, trivial⟩ fun a hK => ?_
                                    refine wp_cond_false (hK.get rfl) ?_
                                    refine wp_seq ?_
                                    refine region_go (lst := [0, 1, 2]) (by kernel_rfl) ?_
                                    refine stepM hK 42 4 (by kernel_rfl) (.inl rfl) rfl fun a hK => ?_
                                    rcases Bool.eq_false_or_eq_true (List.isPrefixOf [125] l) with h19 | h19
                                    · refine stepRet hK hM 43 #[Str [125], .pointer (some ⟨b1, 0, none⟩)] (.bool true) (by kernel_rfl) (run_callE en_lex_sign_1 rfl rfl (by kernel_rfl)) (ret_eq (lex_begins [125] l _ _ ((hM.row 0 rfl).cells 0 1)) (congrArg Value.bool h19)) fun a w hK hM => ?_
                                      refine stepM hK 17 43 (by kernel_rfl) (.inr rfl) rfl fun a hK => ?_
                                      refine region_done hK [(17, .bool true), (6, .bool false), (4, .func (.func 54) #[] #[.pointer (some ⟨b1, 0, none⟩)]), (3, .int .i64 0), (2, .int .i64 0), (1, .pointer (some ⟨b1, 0, none⟩)), (0, Str l)] ⟨rfl, rfl, rfl, rfl, rfl, rfl, rfl, trivial⟩ fun a hK => ?_
                                      refine wp_cond_true (hK.get rfl) ?_
                                      refine wp_skip ?_
                                      refine wp_cond_true (hK.get rfl) ?_
                                      refine wp_exit (exit_then (exit_past rfl (exit_then (exit_here 2 ?_))))
                                      refine wp_seq ?_
                                      refine region_go (lst := [0, 1, 2]) (by kernel_rfl) ?_
                                      refine stepM hK 50 3 (by kernel_rfl) (.inl rfl) rfl fun a hK => ?_
                                      refine stepP hK 51 (.int .i64 1) (by kernel_rfl) (by kernel_rfl) fun a hK => ?_
                                      refine stepM hK 3 51 (by kernel_rfl) (.inr rfl) rfl fun a hK => ?_
                                      refine region_done hK [(3, .int .i64 1), (17, .bool true), (6, .bool false), (4, .func (.func 54) #[] #[.pointer (some ⟨b1, 0, none⟩)]), (2, .int .i64 0), (1, .pointer (some ⟨b1, 0, none⟩)), (0, Str l)] ⟨rfl, rfl, rfl, rfl, rfl, rfl, rfl, trivial⟩ fun a hK => ?_
                                      refine wp_exit (exit_here 0 ?_)
                                      refine wp_seq ?_
                                      refine region_go (lst := [0, 1]) (by kernel_rfl) ?_
                                      refine stepM hK 52 3 (by kernel_rfl) (.inl rfl) rfl fun a hK => ?_
                                      refine stepM hK 2 52 (by kernel_rfl) (.inr rfl) rfl fun a hK => ?_
                                      refine region_done hK [(2, .int .i64 1), (3, .int .i64 1), (17, .bool true), (6, .bool false), (4, .func (.func 54) #[] #[.pointer (some ⟨b1, 0, none⟩)]), (1, .pointer (some ⟨b1, 0, none⟩)), (0, Str l)] ⟨rfl, rfl, rfl, rfl, rfl, rfl, rfl, trivial⟩ fun a hK => ?_
                                      refine wp_ret ?_
                                      exact ret_t hK rfl (u := (.int .i64 1)) rfl (⟨congrArg (fun q : Nat => Ending.returned (.int .i64 (q : Int))) (show (1 : Nat) = signLen l by unfold signLen signAt signL; rw [List.find?_cons, h2, List.find?_cons, h3, List.find?_cons, h4, List.find?_cons, h5, List.find?_cons, h6, List.find?_cons, h7, List.find?_cons, h8, List.find?_cons, h9, List.find?_cons, h10, List.find?_cons, h11, List.find?_cons, h12, List.find?_cons, h13, List.find?_cons, h14, List.find?_cons, h15, List.find?_cons, h16, List.find?_cons, h17, List.find?_cons, h18, List.find?_cons, h19]; try rfl), hM.below⟩)
                                    · refine stepRet hK hM 43 #[Str [125], .pointer (some ⟨b1, 0, none⟩)] (.bool false) (by kernel_rfl) (run_callE en_lex_sign_1 rfl rfl (by kernel_rfl)) (ret_eq (lex_begins [125] l _ _ ((hM.row 0 rfl).cells 0 1)) (congrArg Value.bool h19)) fun a w hK hM => ?_
                                      refine stepM hK 17 43 (by kernel_rfl) (.inr rfl) rfl fun a hK => ?_
                                      refine region_done hK [(17, .bool false), (6, .bool false), (4, .func (.func 54) #[] #[.pointer (some ⟨b1, 0, none⟩)]), (3, .int .i64 0), (2, .int .i64 0), (1, .pointer (some ⟨b1, 0, none⟩)), (0, Str l)] ⟨rfl, rfl, rfl, rfl, rfl, rfl, rfl, trivial⟩ fun a hK => ?_
                                      refine wp_cond_false (hK.get rfl) ?_
                                      refine wp_seq ?_
                                      refine region_go (lst := [0, 1, 2]) (by kernel_rfl) ?_
                                      refine stepM hK 44 4 (by kernel_rfl) (.inl rfl) rfl fun a hK => ?_
                                      rcases Bool.eq_false_or_eq_true (List.isPrefixOf [44] l) with h20 | h20
                                      · refine stepRet hK hM 45 #[Str [44], .pointer (some ⟨b1, 0, none⟩)] (.bool true) (by kernel_rfl) (run_callE en_lex_sign_1 rfl rfl (by kernel_rfl)) (ret_eq (lex_begins [44] l _ _ ((hM.row 0 rfl).cells 0 1)) (congrArg Value.bool h20)) fun a w hK hM => ?_
                                        refine stepM hK 17 45 (by kernel_rfl) (.inr rfl) rfl fun a hK => ?_
                                        refine region_done hK [(17, .bool true), (6, .bool false), (4, .func (.func 54) #[] #[.pointer (some ⟨b1, 0, none⟩)]), (3, .int .i64 0), (2, .int .i64 0), (1, .pointer (some ⟨b1, 0, none⟩)), (0, Str l)] ⟨rfl, rfl, rfl, rfl, rfl, rfl, rfl, trivial⟩ fun a hK => ?_
                                        refine wp_cond_true (hK.get rfl) ?_
                                        refine wp_skip ?_
                                        refine wp_cond_true (hK.get rfl) ?_
                                        refine wp_exit (exit_then (exit_past rfl (exit_then (exit_here 2 ?_))))
                                        refine wp_seq ?_
                                        refine region_go (lst := [0, 1, 2]) (by kernel_rfl) ?_
                                        refine stepM hK 50 3 (by kernel_rfl) (.inl rfl) rfl fun a hK => ?_
                                        refine stepP hK 51 (.int .i64 1) (by kernel_rfl) (by kernel_rfl) fun a hK => ?_
                                        refine stepM hK 3 51 (by kernel_rfl) (.inr rfl) rfl fun a hK => ?_
                                        refine region_done hK [(3, .int .i64 1), (17, .bool true), (6, .bool false), (4, .func (.func 54) #[] #[.pointer (some ⟨b1, 0, none⟩)]), (2, .int .i64 0), (1, .pointer (some ⟨b1, 0, none⟩)), (0, Str l)] ⟨rfl, rfl, rfl, rfl, rfl, rfl, rfl, trivial⟩ fun a hK => ?_
                                        refine wp_exit (exit_here 0 ?_)
                                        refine wp_seq ?_
                                        refine region_go (lst := [0, 1]) (by kernel_rfl) ?_
                                        refine stepM hK 52 3 (by kernel_rfl) (.inl rfl) rfl fun a hK => ?_
                                        refine stepM hK 2 52 (by kernel_rfl) (.inr rfl) rfl fun a hK => ?_
                                        refine region_done hK [(2, .int .i64 1), (3, .int .i64 1), (17, .bool true), (6, .bool false), (4, .func (.func 54) #[] #[.pointer (some ⟨b1, 0, none⟩)]), (1, .pointer (some ⟨b1, 0, none⟩)), (0, Str l)] ⟨rfl, rfl, rfl, rfl, rfl, rfl, rfl, trivial⟩ fun a hK => ?_
                                        refine wp_ret ?_
                                        exact ret_t hK rfl (u := (.int .i64 1)) rfl (⟨congrArg (fun q : Nat => Ending.returned (.int .i64 (q : Int))) (show (1 : Nat) = signLen l by unfold signLen signAt signL; rw [List.find?_cons, h2, List.find?_cons, h3, List.find?_cons, h4, List.find?_cons, h5, List.find?_cons, h6, List.find?_cons, h7, List.find?_cons, h8, List.find?_cons, h9, List.find?_cons, h10, List.find?_cons, h11, List.find?_cons, h12, List.find?_cons, h13, List.find?_cons, h14, List.find?_cons, h15, List.find?_cons, h16, List.find?_cons, h17, List.find?_cons, h18, List.find?_cons, h19, List.find?_cons, h20]; try rfl), hM.below⟩)
                                      · refine stepRet hK hM 45 #[Str [44], .pointer (some ⟨b1, 0, none⟩)] (.bool false) (by kernel_rfl) (run_callE en_lex_sign_1 rfl rfl (by kernel_rfl)) (ret_eq (lex_begins [44] l _ _ ((hM.row 0 rfl).cells 0 1)) (congrArg Value.bool h20)) fun a w hK hM => ?_
                                        refine stepM hK 17 45 (by kernel_rfl) (.inr rfl) rfl fun a hK => ?_
                                        refine region_done hK [(17, .bool false), (6, .bool false), (4, .func (.func 54) #[] #[.pointer (some ⟨b1, 0, none⟩)]), (3, .int .i64 0), (2, .int .i64 0), (1, .pointer (some ⟨b1, 0, none⟩)), (0, Str l)] ⟨rfl, rfl, rfl, rfl, rfl, rfl, rfl, trivial⟩ fun a hK => ?_
                                        refine wp_cond_false (hK.get rfl) ?_
                                        refine region_go (lst := [0, 1, 2]) (by kernel_rfl) ?_
                                        refine stepM hK 46 4 (by kernel_rfl) (.inl rfl) rfl fun a hK => ?_
                                        rcases Bool.eq_false_or_eq_true (List.isPrefixOf [59] l) with h21 | h21
                                        · refine stepRet hK hM 47 #[Str [59], .pointer (some ⟨b1, 0, none⟩)] (.bool true) (by kernel_rfl) (run_callE en_lex_sign_1 rfl rfl (by kernel_rfl)) (ret_eq (lex_begins [59] l _ _ ((hM.row 0 rfl).cells 0 1)) (congrArg Value.bool h21)) fun a w hK hM => ?_
                                          refine stepM hK 17 47 (by kernel_rfl) (.inr rfl) rfl fun a hK => ?_
                                          refine region_done hK [(17, .bool true), (6, .bool false), (4, .func (.func 54) #[] #[.pointer (some ⟨b1, 0, none⟩)]), (3, .int .i64 0), (2, .int .i64 0), (1, .pointer (some ⟨b1, 0, none⟩)), (0, Str l)] ⟨rfl, rfl, rfl, rfl, rfl, rfl, rfl, trivial⟩ fun a hK => ?_
                                          refine wp_cond_true (hK.get rfl) ?_
                                          refine wp_exit (exit_then (exit_past rfl (exit_then (exit_here 2 ?_))))
                                          refine wp_seq ?_
                                          refine region_go (lst := [0, 1, 2]) (by kernel_rfl) ?_
                                          refine stepM hK 50 3 (by kernel_rfl) (.inl rfl) rfl fun a hK => ?_
                                          refine stepP hK 51 (.int .i64 1) (by kernel_rfl) (by kernel_rfl) fun a hK => ?_
                                          refine stepM hK 3 51 (by kernel_rfl) (.inr rfl) rfl fun a hK => ?_
                                          refine region_done hK [(3, .int .i64 1), (17, .bool true), (6, .bool false), (4, .func (.func 54) #[] #[.pointer (some ⟨b1, 0, none⟩)]), (2, .int .i64 0), (1, .pointer (some ⟨b1, 0, none⟩)), (0, Str l)] ⟨rfl, rfl, rfl, rfl, rfl, rfl, rfl, trivial⟩ fun a hK => ?_
                                          refine wp_exit (exit_here 0 ?_)
                                          refine wp_seq ?_
                                          refine region_go (lst := [0, 1]) (by kernel_rfl) ?_
                                          refine stepM hK 52 3 (by kernel_rfl) (.inl rfl) rfl fun a hK => ?_
                                          refine stepM hK 2 52 (by kernel_rfl) (.inr rfl) rfl fun a hK => ?_
                                          refine region_done hK [(2, .int .i64 1), (3, .int .i64 1), (17, .bool true), (6, .bool false), (4, .func (.func 54) #[] #[.pointer (some ⟨b1, 0, none⟩)]), (1, .pointer (some ⟨b1, 0, none⟩)), (0, Str l)] ⟨rfl, rfl, rfl, rfl, rfl, rfl, rfl, trivial⟩ fun a hK => ?_
                                          refine wp_ret ?_
                                          exact ret_t hK rfl (u := (.int .i64 1)) rfl (⟨congrArg (fun q : Nat => Ending.returned (.int .i64 (q : Int))) (show (1 : Nat) = signLen l by unfold signLen signAt signL; rw [List.find?_cons, h2, List.find?_cons, h3, List.find?_cons, h4, List.find?_cons, h5, List.find?_cons, h6, List.find?_cons, h7, List.find?_cons, h8, List.find?_cons, h9, List.find?_cons, h10, List.find?_cons, h11, List.find?_cons, h12, List.find?_cons, h13, List.find?_cons, h14, List.find?_cons, h15, List.find?_cons, h16, List.find?_cons, h17, List.find?_cons, h18, List.find?_cons, h19, List.find?_cons, h20, List.find?_cons, h21]; try rfl), hM.below⟩)
                                        · refine stepRet hK hM 47 #[Str [59], .pointer (some ⟨b1, 0, none⟩)] (.bool false) (by kernel_rfl) (run_callE en_lex_sign_1 rfl rfl (by kernel_rfl)) (ret_eq (lex_begins [59] l _ _ ((hM.row 0 rfl).cells 0 1)) (congrArg Value.bool h21)) fun a w hK hM => ?_
                                          refine stepM hK 17 47 (by kernel_rfl) (.inr rfl) rfl fun a hK => ?_
                                          refine region_done hK [(17, .bool false), (6, .bool false), (4, .func (.func 54) #[] #[.pointer (some ⟨b1, 0, none⟩)]), (3, .int .i64 0), (2, .int .i64 0), (1, .pointer (some ⟨b1, 0, none⟩)), (0, Str l)] ⟨rfl, rfl, rfl, rfl, rfl, rfl, rfl, trivial⟩ fun a hK => ?_
                                          refine wp_cond_false (hK.get rfl) ?_
                                          refine wp_skip ?_
                                          refine wp_exit (exit_past rfl (exit_then (exit_past rfl (exit_then (exit_here 0 ?_)))))
                                          refine wp_seq ?_
                                          refine region_go (lst := [0, 1]) (by kernel_rfl) ?_
                                          refine stepM hK 52 3 (by kernel_rfl) (.inl rfl) rfl fun a hK => ?_
                                          refine stepM hK 2 52 (by kernel_rfl) (.inr rfl) rfl fun a hK => ?_
                                          refine region_done hK [(2, .int .i64 0), (17, .bool false), (6, .bool false), (4, .func (.func 54) #[] #[.pointer (some ⟨b1, 0, none⟩)]), (3, .int .i64 0), (1, .pointer (some ⟨b1, 0, none⟩)), (0, Str l)] ⟨rfl, rfl, rfl, rfl, rfl, rfl, rfl, trivial⟩ fun a hK => ?_
                                          refine wp_ret ?_
                                          exact ret_t hK rfl (u := (.int .i64 0)) rfl (⟨congrArg (fun q : Nat => Ending.returned (.int .i64 (q : Int))) (show (0 : Nat) = signLen l by unfold signLen signAt signL; rw [List.find?_cons, h2, List.find?_cons, h3, List.find?_cons, h4, List.find?_cons, h5, List.find?_cons, h6, List.find?_cons, h7, List.find?_cons, h8, List.find?_cons, h9, List.find?_cons, h10, List.find?_cons, h11, List.find?_cons, h12, List.find?_cons, h13, List.find?_cons, h14, List.find?_cons, h15, List.find?_cons, h16, List.find?_cons, h17, List.find?_cons, h18, List.find?_cons, h19, List.find?_cons, h20, List.find?_cons, h21]; try rfl), hM.below⟩)
theorem en_lex_sign : Enters Tryd.prog 42 := enters_of Tryd.func42 (by kernel_rfl) rfl
end Go.Proofs.YtbcfggdifljacaaDoor
