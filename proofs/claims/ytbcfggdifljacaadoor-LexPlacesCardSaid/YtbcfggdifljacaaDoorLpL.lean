/-
  lex.Line; LexPlaces answers true.
-/
import Derived.Test.YtbcfggdifljacaaDoorLpK
namespace Go.Proofs.YtbcfggdifljacaaDoor
open Go Go.RowKit

theorem lc_count (l : List UInt8) : ∀ k, k ≤ l.length → (lcAt l k).1 = (l.take k).count 10 + 1 ∧ ((lcAt l k).2 : Int) = (k : Int) - Lib.lastIdx ⟨l.toArray⟩ 10 k := by
  intro k
  induction k with
  | zero => intro _; exact ⟨rfl, by simp [lcAt, Lib.lastIdx]⟩
  | succ k ih =>
    intro hk
    obtain ⟨h1, h2⟩ := ih (by omega)
    have hc : l[k]? = some l[k] := List.getElem?_eq_getElem (by omega)
    have hg : ((⟨l.toArray⟩ : ByteArray).data[k]!) = l[k] := by
      show (l.toArray)[k]! = l[k]
      rw [List.getElem!_toArray, List.getElem!_eq_getElem?_getD, hc]; rfl
    rw [lcAt_succ l k _ hc, List.take_add_one, hc, List.count_append]
    unfold Lib.lastIdx
    rw [hg]
    by_cases h : (((l[k]).toNat : Nat) : Int) = 10
    · have hb : l[k] = 10 := byte_eq (n := 10) (by decide) h
      rw [if_pos (by simpa using h), if_pos h]
      refine ⟨?_, ?_⟩
      · show (lcAt l k).1 + 1 = _
        rw [h1, hb]; rfl
      · show ((1 : Nat) : Int) = _
        omega
    · have hb : l[k] ≠ 10 := fun e => h (by rw [e]; rfl)
      rw [if_neg (by simpa using h), if_neg h]
      refine ⟨?_, ?_⟩
      · show (lcAt l k).1 = _
        rw [h1]; simp [hb]
      · show (((lcAt l k).2 + 1 : Nat) : Int) = _
        omega
theorem lc_take (l : List UInt8) (A : Nat) : lcAt l A = lcAt (l.take A) A := by unfold lcAt; rw [List.take_take, Nat.min_self]
theorem line_eq (l : List UInt8) (A : Nat) (hA : A ≤ l.length) : (lcAt l A).1 = (l.take A).count 10 + 1 ∧ ((lcAt l A).2 : Int) = ((l.take A).length : Int) - Lib.lastIdx ⟨(l.take A).toArray⟩ 10 (l.take A).length := by
  have hlen : (l.take A).length = A := by rw [List.length_take]; omega
  have h := lc_count (l.take A) A (by omega)
  rw [List.take_take, Nat.min_self] at h
  rw [lc_take l A, hlen]; exact h
theorem lib_Count (l : List UInt8) (w0 : World) : Calls Tryd.prog 31 #[Str l, Str [10]] w0 (Ret w0 (.int .i64 (((l.count 10 : Nat)) : Int))) := by
  refine (Tryd.strings_Count_one ⟨l.toArray⟩ 10 w0).mono ?_
  rintro e w' ⟨rfl, rfl⟩
  exact ⟨rfl, Below.refl _ _⟩
theorem lib_Last (l : List UInt8) (w0 : World) (h : l.length < 4611686018427387904) : Calls Tryd.prog 32 #[Str l, .int .u8 10] w0 (Ret w0 (.int .i64 (Lib.lastIdx ⟨l.toArray⟩ 10 l.length))) := by
  have hsz : (ByteArray.mk l.toArray).size = l.length := by show l.toArray.size = _; simp
  refine (Tryd.strings_LastIndexByte ⟨l.toArray⟩ 10 (by rw [hsz]; exact h) w0).mono ?_
  rintro e w' ⟨rfl, rfl⟩
  refine ⟨?_, Below.refl _ _⟩
  unfold Lib.lastIndexByte; rw [hsz]
theorem en_strings_Count : Enters Tryd.prog 31 := enters_of Tryd.func31 (by kernel_rfl) rfl
theorem en_strings_LastIndexByte : Enters Tryd.prog 32 := enters_of Tryd.func32 (by kernel_rfl) rfl
set_option maxRecDepth 100000 in
set_option maxHeartbeats 4000000 in
theorem lex_Line (l : List UInt8) (at_ : Int) (hbig : l.length ≤ 1000000) (w0 : World) : Calls Tryd.prog 15 #[Str l, .int .i64 at_] w0 (Ret w0 (.tuple #[.int .i64 (((lcAt l (atIn l at_)).1 : Nat) : Int), .int .i64 (((lcAt l (atIn l at_)).2 : Nat) : Int)])) := by
  refine calls_K (args := [Str l, .int .i64 at_]) (n := 22) (env := [(0, Str l), (1, .int .i64 at_)]) Tryd.func15 rfl rfl rfl ⟨rfl, rfl, trivial⟩ fun a w hK hM => ?_
  have hA : atIn l at_ ≤ l.length := by unfold atIn; omega
  have hlen : (l.take (atIn l at_)).length = atIn l at_ := by rw [List.length_take]; omega
  have hcc := line_eq l (atIn l at_) hA
  have hcl2 := (lcAt_le l (atIn l at_)).2
  have hcl : (l.take (atIn l at_)).count 10 ≤ (l.take (atIn l at_)).length := List.count_le_length
  refine wp_seq ?_
  refine region_go (lst := [0, 1]) (by kernel_rfl) ?_
  refine stepP hK 4 (.int .i64 0) (by kernel_rfl) (by kernel_rfl) fun a hK => ?_
  refine stepP hK 5 (.int .i64 0) (by kernel_rfl) (by kernel_rfl) fun a hK => ?_
  refine region_done hK [(5, .int .i64 0), (4, .int .i64 0), (0, Str l), (1, .int .i64 at_)] ⟨rfl, rfl, rfl, rfl, trivial⟩ fun a hK => ?_
  refine wp_seq ?_
  refine region_go (lst := [0, 1, 2, 3, 4, 5, 6, 7]) (by kernel_rfl) ?_
  refine stepM hK 7 0 (by kernel_rfl) (.inl rfl) rfl fun a hK => ?_
  refine stepM hK 8 1 (by kernel_rfl) (.inl rfl) rfl fun a hK => ?_
  refine stepP hK 9 (.int .i64 (max at_ 0)) (by kernel_rfl) (run_maxI rfl rfl rfl) fun a hK => ?_
  refine stepM hK 10 0 (by kernel_rfl) (.inl rfl) rfl fun a hK => ?_
  refine stepP hK 11 (.int .i64 ((l.length : Nat) : Int)) (by kernel_rfl) (by kernel_rfl) fun a hK => ?_
  refine stepP hK 12 (.int .i64 (((atIn l at_) : Nat) : Int)) (by kernel_rfl) (okVal (run_minI rfl rfl rfl) (congrArg (Value.int .i64) (by unfold atIn; omega))) fun a hK => ?_
  refine stepP hK 13 (Str (l.take (atIn l at_))) (by kernel_rfl) (run_slcHi (j := (atIn l at_)) rfl rfl rfl hA) fun a hK => ?_
  refine stepM hK 6 13 (by kernel_rfl) (.inr rfl) rfl fun a hK => ?_
  refine region_done hK [(6, Str (l.take (atIn l at_))), (5, .int .i64 0), (4, .int .i64 0), (0, Str l), (1, .int .i64 at_)] ⟨rfl, rfl, rfl, rfl, rfl, trivial⟩ fun a hK => ?_
  refine wp_seq ?_
  refine region_go (lst := [0, 1, 2, 3, 4, 5, 6, 7, 8, 9]) (by kernel_rfl) ?_
  refine stepM hK 14 6 (by kernel_rfl) (.inl rfl) rfl fun a hK => ?_
  refine stepRet hK hM 15 #[Str (l.take (atIn l at_)), Str [10]] (.int .i64 ((((l.take (atIn l at_)).count 10) : Nat) : Int)) (by kernel_rfl) (run_callE en_strings_Count rfl rfl (by kernel_rfl)) (lib_Count (l.take (atIn l at_)) _) fun a w hK hM => ?_
  refine stepP hK 16 (.int .i64 (((((l.take (atIn l at_)).count 10) + 1) : Nat) : Int)) (by kernel_rfl) (run_addN (i := ((l.take (atIn l at_)).count 10)) (j := 1) rfl rfl rfl (by omega)) fun a hK => ?_
  refine stepM hK 17 6 (by kernel_rfl) (.inl rfl) rfl fun a hK => ?_
  refine stepP hK 18 (.int .i64 (((l.take (atIn l at_)).length : Nat) : Int)) (by kernel_rfl) (by kernel_rfl) fun a hK => ?_
  refine stepM hK 19 6 (by kernel_rfl) (.inl rfl) rfl fun a hK => ?_
  refine stepRet hK hM 20 #[Str (l.take (atIn l at_)), .int .u8 10] (.int .i64 (Lib.lastIdx ⟨((l.take (atIn l at_))).toArray⟩ 10 ((l.take (atIn l at_))).length)) (by kernel_rfl) (run_callE en_strings_LastIndexByte rfl rfl (by kernel_rfl)) (lib_Last (l.take (atIn l at_)) _ (by rw [List.length_take]; omega)) fun a w hK hM => ?_
  refine stepP hK 21 (.int .i64 ((((l.take (atIn l at_)).length : Nat) : Int) - (Lib.lastIdx ⟨((l.take (atIn l at_))).toArray⟩ 10 ((l.take (atIn l at_))).length))) (by kernel_rfl) (run_subZ rfl rfl rfl (by omega) (by omega)) fun a hK => ?_
  refine stepM hK 4 16 (by kernel_rfl) (.inr rfl) rfl fun a hK => ?_
  refine stepM hK 5 21 (by kernel_rfl) (.inr rfl) rfl fun a hK => ?_
  refine region_done hK [(5, .int .i64 ((((l.take (atIn l at_)).length : Nat) : Int) - (Lib.lastIdx ⟨((l.take (atIn l at_))).toArray⟩ 10 ((l.take (atIn l at_))).length))), (4, .int .i64 (((((l.take (atIn l at_)).count 10) + 1) : Nat) : Int)), (6, Str (l.take (atIn l at_))), (0, Str l), (1, .int .i64 at_)] ⟨rfl, rfl, rfl, rfl, rfl, trivial⟩ fun a hK => ?_
  refine wp_ret ?_
  exact ret_tt hK rfl (u := (.int .i64 (((((l.take (atIn l at_)).count 10) + 1) : Nat) : Int))) (v := (.int .i64 ((((l.take (atIn l at_)).length : Nat) : Int) - (Lib.lastIdx ⟨((l.take (atIn l at_))).toArray⟩ 10 ((l.take (atIn l at_))).length)))) rfl rfl (⟨by rw [hcc.1, hcc.2], hM.below⟩)
theorem en_lex_Line : Enters Tryd.prog 15 := enters_of Tryd.func15 (by kernel_rfl) rfl
end Go.Proofs.YtbcfggdifljacaaDoor
