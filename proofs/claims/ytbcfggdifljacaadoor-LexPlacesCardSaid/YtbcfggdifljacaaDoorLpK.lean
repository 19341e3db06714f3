/-
  strings.Builder's methods, lex.Join, the document's Join, lex.Line.
-/
import Derived.Test.YtbcfggdifljacaaDoorBld
import Derived.Test.YtbcfggdifljacaaDoorDrawnM
import Derived.Test.YtbcfggdifljacaaDoorLpJ
namespace Go.Proofs.YtbcfggdifljacaaDoor
open Go Go.RowKit
set_option maxRecDepth 100000 in
set_option maxHeartbeats 4000000 in
theorem copy_none (b n : Nat) (v : Value) (xs : List Value) {W0 w0 : World} {rest : List It} (hM0 : Mem W0 w0 (.row b 55 [.pointer none, v] :: .own 5 1 v n xs :: rest)) : Calls Tryd.prog 50 #[.pointer (some ⟨b, 0, none⟩)] w0 (Gives W0 (fun _ : Unit => .tuple #[]) (fun _ => (.row b 55 [.pointer (some ⟨b, 0, none⟩), v] :: .own 5 1 v n xs :: rest)) fun _ => True) := by
  refine calls_KM (args := [.pointer (some ⟨b, 0, none⟩)]) (n := 20) (env := [(0, .pointer (some ⟨b, 0, none⟩))]) Tryd.func50 rfl rfl rfl ⟨rfl, trivial⟩ hM0 fun a w hK hM => ?_
  refine wp_seq ?_
  refine region_go (lst := [0, 1, 2, 3, 4]) (by kernel_rfl) ?_
  refine stepM hK 2 0 (by kernel_rfl) (.inl rfl) rfl fun a hK => ?_
  refine stepP hK 3 (.pointer (some ⟨b, 0, none⟩)) (by kernel_rfl) (by kernel_rfl) fun a hK => ?_
  refine stepP hK 4 (.pointer (some ⟨b, 0, none⟩)) (by kernel_rfl) (by kernel_rfl) fun a hK => ?_
  refine stepLoad hK 5 (.pointer none) (by kernel_rfl) rfl rfl ((hM.row 0 rfl).cells 0 1) (by kernel_rfl) fun a hK => ?_
  refine stepP hK 6 (.bool true) (by kernel_rfl) (by kernel_rfl) fun a hK => ?_
  refine region_done hK [(6, .bool true), (0, .pointer (some ⟨b, 0, none⟩))] ⟨rfl, rfl, trivial⟩ fun a hK => ?_
  refine wp_cond_true (hK.get rfl) ?_
  refine region_go (lst := [0, 1, 2, 3, 4, 5, 6, 7]) (by kernel_rfl) ?_
  refine stepM hK 7 0 (by kernel_rfl) (.inl rfl) rfl fun a hK => ?_
  refine stepM hK 8 0 (by kernel_rfl) (.inl rfl) rfl fun a hK => ?_
  refine stepP hK 9 (.pointer (some ⟨b, 0, none⟩)) (by kernel_rfl) (run_cvTo rfl rfl (hM.row 0 rfl)) fun a hK => ?_
  refine stepP hK 10 (.pointer (some ⟨b, 0, none⟩)) (by kernel_rfl) (by kernel_rfl) fun a hK => ?_
  refine stepP hK 11 (.pointer (some ⟨b, 0, none⟩)) (by kernel_rfl) (run_cvFrom rfl rfl (hM.row 0 rfl)) fun a hK => ?_
  refine stepP hK 12 (.pointer (some ⟨b, 0, none⟩)) (by kernel_rfl) (by kernel_rfl) fun a hK => ?_
  refine stepP hK 13 (.pointer (some ⟨b, 0, none⟩)) (by kernel_rfl) (by kernel_rfl) fun a hK => ?_
  refine stepStore hK hM 0 [.pointer (some ⟨b, 0, none⟩), v] (by kernel_rfl) rfl rfl rfl rfl (by kernel_rfl) fun w hM => ?_
  replace hM := hM.to (.row b 55 [.pointer (some ⟨b, 0, none⟩), v] :: .own 5 1 v n xs :: rest) (by kernel_rfl)
  refine region_done hK [(6, .bool true), (0, .pointer (some ⟨b, 0, none⟩))] ⟨rfl, rfl, trivial⟩ fun a hK => ?_
  exact ret_0 hK rfl (⟨(), rfl, hM, trivial⟩)
set_option maxRecDepth 100000 in
set_option maxHeartbeats 4000000 in
theorem copy_self (b n : Nat) (v : Value) (xs : List Value) {W0 w0 : World} {rest : List It} (hM0 : Mem W0 w0 (.row b 55 [.pointer (some ⟨b, 0, none⟩), v] :: .own 5 1 v n xs :: rest)) : Calls Tryd.prog 50 #[.pointer (some ⟨b, 0, none⟩)] w0 (Gives W0 (fun _ : Unit => .tuple #[]) (fun _ => (.row b 55 [.pointer (some ⟨b, 0, none⟩), v] :: .own 5 1 v n xs :: rest)) fun _ => True) := by
  refine calls_KM (args := [.pointer (some ⟨b, 0, none⟩)]) (n := 20) (env := [(0, .pointer (some ⟨b, 0, none⟩))]) Tryd.func50 rfl rfl rfl ⟨rfl, trivial⟩ hM0 fun a w hK hM => ?_
  refine wp_seq ?_
  refine region_go (lst := [0, 1, 2, 3, 4]) (by kernel_rfl) ?_
  refine stepM hK 2 0 (by kernel_rfl) (.inl rfl) rfl fun a hK => ?_
  refine stepP hK 3 (.pointer (some ⟨b, 0, none⟩)) (by kernel_rfl) (by kernel_rfl) fun a hK => ?_
  refine stepP hK 4 (.pointer (some ⟨b, 0, none⟩)) (by kernel_rfl) (by kernel_rfl) fun a hK => ?_
  refine stepLoad hK 5 (.pointer (some ⟨b, 0, none⟩)) (by kernel_rfl) rfl rfl ((hM.row 0 rfl).cells 0 1) (by kernel_rfl) fun a hK => ?_
  refine stepP hK 6 (.bool false) (by kernel_rfl) (by kernel_rfl) fun a hK => ?_
  refine region_done hK [(6, .bool false), (0, .pointer (some ⟨b, 0, none⟩))] ⟨rfl, rfl, trivial⟩ fun a hK => ?_
  refine wp_cond_false (hK.get rfl) ?_
  refine wp_seq ?_
  refine region_go (lst := [0, 1, 2, 3, 4, 5]) (by kernel_rfl) ?_
  refine stepM hK 14 0 (by kernel_rfl) (.inl rfl) rfl fun a hK => ?_
  refine stepP hK 15 (.pointer (some ⟨b, 0, none⟩)) (by kernel_rfl) (by kernel_rfl) fun a hK => ?_
  refine stepP hK 16 (.pointer (some ⟨b, 0, none⟩)) (by kernel_rfl) (by kernel_rfl) fun a hK => ?_
  refine stepLoad hK 17 (.pointer (some ⟨b, 0, none⟩)) (by kernel_rfl) rfl rfl ((hM.row 0 rfl).cells 0 1) (by kernel_rfl) fun a hK => ?_
  refine stepM hK 18 0 (by kernel_rfl) (.inl rfl) rfl fun a hK => ?_
  refine stepP hK 19 (.bool false) (by kernel_rfl) (run_neqP rfl rfl rfl) fun a hK => ?_
  refine region_done hK [(19, .bool false), (6, .bool false), (0, .pointer (some ⟨b, 0, none⟩))] ⟨rfl, rfl, rfl, trivial⟩ fun a hK => ?_
  refine wp_cond_false (hK.get rfl) ?_
  refine wp_skip ?_
  exact ret_0 hK rfl (⟨(), rfl, hM, trivial⟩)
theorem en_copyCheck : Enters Tryd.prog 50 := enters_of Tryd.func50 (by kernel_rfl) rfl
set_option maxRecDepth 100000 in
set_option maxHeartbeats 4000000 in
theorem wb_none (b n : Nat) (c : UInt8) (v : Value) (xs : List Value) (hn : n ≤ 100000000) {W0 w0 : World} {rest : List It} (hM0 : Mem W0 w0 (.row b 55 [.pointer none, v] :: .own 5 1 v n xs :: rest)) : Calls Tryd.prog 33 #[.pointer (some ⟨b, 0, none⟩), .int .u8 ((c.toNat : Nat) : Int)] w0 (Gives W0 (fun _ : Value => .nilIface) (fun v2 => (.row b 55 [.pointer (some ⟨b, 0, none⟩), v2] :: .own 5 1 v2 (n + 1) (xs ++ [.int .u8 ((c.toNat : Nat) : Int)]) :: rest)) fun _ => True) := by
  refine calls_KM (args := [.pointer (some ⟨b, 0, none⟩), .int .u8 ((c.toNat : Nat) : Int)]) (n := 17) (env := [(0, .pointer (some ⟨b, 0, none⟩)), (1, .int .u8 ((c.toNat : Nat) : Int))]) Tryd.func33 rfl rfl rfl ⟨rfl, rfl, trivial⟩ hM0 fun a w hK hM => ?_
  refine wp_seq ?_
  refine region_go (lst := [0]) (by kernel_rfl) ?_
  refine stepP hK 4 (.nilIface) (by kernel_rfl) (by kernel_rfl) fun a hK => ?_
  refine region_done hK [(4, .nilIface), (0, .pointer (some ⟨b, 0, none⟩)), (1, .int .u8 ((c.toNat : Nat) : Int))] ⟨rfl, rfl, rfl, trivial⟩ fun a hK => ?_
  refine wp_seq ?_
  refine region_go (lst := [0, 1]) (by kernel_rfl) ?_
  refine stepM hK 5 0 (by kernel_rfl) (.inl rfl) rfl fun a hK => ?_
  refine stepCallIn hK 6 #[.pointer (some ⟨b, 0, none⟩)] (by kernel_rfl) (run_callE en_copyCheck rfl rfl (by kernel_rfl)) (copy_none b n v xs hM) ?_
  rintro _ a w - hK hM
  replace hM := hM.to (.row b 55 [.pointer (some ⟨b, 0, none⟩), v] :: .own 5 1 v n xs :: rest) (by kernel_rfl)
  refine region_done hK [(4, .nilIface), (0, .pointer (some ⟨b, 0, none⟩)), (1, .int .u8 ((c.toNat : Nat) : Int))] ⟨rfl, rfl, rfl, trivial⟩ fun a hK => ?_
  refine wp_seq ?_
  refine region_go (lst := [0, 1, 2, 3, 4, 5, 6, 7, 8, 9, 10]) (by kernel_rfl) ?_
  refine stepM hK 7 0 (by kernel_rfl) (.inl rfl) rfl fun a hK => ?_
  refine stepM hK 8 0 (by kernel_rfl) (.inl rfl) rfl fun a hK => ?_
  refine stepP hK 9 (.pointer (some ⟨b, 0, none⟩)) (by kernel_rfl) (by kernel_rfl) fun a hK => ?_
  refine stepP hK 10 (.pointer (some ⟨b, 1, none⟩)) (by kernel_rfl) (by kernel_rfl) fun a hK => ?_
  refine stepLoad hK 11 v (by kernel_rfl) rfl rfl ((hM.row 0 rfl).cells 1 1) (by kernel_rfl) fun a hK => ?_
  refine stepM hK 12 1 (by kernel_rfl) (.inl rfl) rfl fun a hK => ?_
  refine stepAlloc hK hM 13 5 [.int .u8 ((c.toNat : Nat) : Int)] (fun b => .slice (some ⟨b, 0, none⟩) 1 1) (by kernel_rfl) (by kernel_rfl) fun b2 a w hK hM => ?_
  refine stepAppend hK hM 14 2 0 (ety := 5) (size := 1) (m := 1) (news := [.int .u8 ((c.toNat : Nat) : Int)]) Tryd.underlying53 elem_u8 (by kernel_rfl) rfl rfl rfl rfl rfl rfl (by kernel_rfl) ⟨by omega, by decide⟩ ?_
  intro v3 a w hK hM
  replace hM := hM.to (.row b2 5 [.int .u8 ((c.toNat : Nat) : Int)] :: .row b 55 [.pointer (some ⟨b, 0, none⟩), v] :: .own 5 1 v3 (n + 1) (xs ++ [.int .u8 ((c.toNat : Nat) : Int)]) :: rest) (by kernel_rfl)
  obtain ⟨A4, q4, c4, rfl⟩ := hM.slc 2 rfl
  refine stepP hK 15 (.pointer (some ⟨b, 0, none⟩)) (by kernel_rfl) (by kernel_rfl) fun a hK => ?_
  refine stepP hK 16 (.pointer (some ⟨b, 1, none⟩)) (by kernel_rfl) (by kernel_rfl) fun a hK => ?_
  refine stepStore hK hM 1 [.pointer (some ⟨b, 0, none⟩), .slice A4 q4 c4] (by kernel_rfl) rfl rfl rfl rfl (by kernel_rfl) fun w hM => ?_
  replace hM := hM.to (.row b2 5 [.int .u8 ((c.toNat : Nat) : Int)] :: .row b 55 [.pointer (some ⟨b, 0, none⟩), .slice A4 q4 c4] :: .own 5 1 (.slice A4 q4 c4) (n + 1) (xs ++ [.int .u8 ((c.toNat : Nat) : Int)]) :: rest) (by kernel_rfl)
  refine region_done hK [(4, .nilIface), (0, .pointer (some ⟨b, 0, none⟩)), (1, .int .u8 ((c.toNat : Nat) : Int))] ⟨rfl, rfl, rfl, trivial⟩ fun a hK => ?_
  refine wp_seq ?_
  refine region_go (lst := [0]) (by kernel_rfl) ?_
  refine stepP hK 4 (.nilIface) (by kernel_rfl) (by kernel_rfl) fun a hK => ?_
  refine region_done hK [(4, .nilIface), (0, .pointer (some ⟨b, 0, none⟩)), (1, .int .u8 ((c.toNat : Nat) : Int))] ⟨rfl, rfl, rfl, trivial⟩ fun a hK => ?_
  refine wp_ret ?_
  exact ret_t hK rfl (u := (.nilIface)) rfl (⟨(.slice A4 q4 c4), rfl, (hM.drop 1).to _ rfl, trivial⟩)
set_option maxRecDepth 100000 in
set_option maxHeartbeats 4000000 in
theorem ws_none (b n : Nat) (s : List UInt8) (v : Value) (xs : List Value) (hn : n ≤ 100000000) (hs : s.length ≤ 100000000) {W0 w0 : World} {rest : List It} (hM0 : Mem W0 w0 (.row b 55 [.pointer none, v] :: .own 5 1 v n xs :: rest)) (hrest : NoTag 5 rest) : Calls Tryd.prog 34 #[.pointer (some ⟨b, 0, none⟩), Str s] w0 (Gives W0 (fun _ : Value => .tuple #[.int .i64 ((s.length : Nat) : Int), .nilIface]) (fun v2 => (.row b 55 [.pointer (some ⟨b, 0, none⟩), v2] :: .own 5 1 v2 (n + s.length) (xs ++ Lib.byteCells s) :: rest)) fun _ => True) := by
  refine calls_KM (args := [.pointer (some ⟨b, 0, none⟩), Str s]) (n := 19) (env := [(0, .pointer (some ⟨b, 0, none⟩)), (1, Str s)]) Tryd.func34 rfl rfl rfl ⟨rfl, rfl, trivial⟩ hM0 fun a w hK hM => ?_
  refine wp_seq ?_
  refine region_go (lst := [0, 1]) (by kernel_rfl) ?_
  refine stepP hK 4 (.int .i64 0) (by kernel_rfl) (by kernel_rfl) fun a hK => ?_
  refine stepP hK 5 (.nilIface) (by kernel_rfl) (by kernel_rfl) fun a hK => ?_
  refine region_done hK [(5, .nilIface), (4, .int .i64 0), (0, .pointer (some ⟨b, 0, none⟩)), (1, Str s)] ⟨rfl, rfl, rfl, rfl, trivial⟩ fun a hK => ?_
  refine wp_seq ?_
  refine region_go (lst := [0, 1]) (by kernel_rfl) ?_
  refine stepM hK 6 0 (by kernel_rfl) (.inl rfl) rfl fun a hK => ?_
  refine stepCallIn hK 7 #[.pointer (some ⟨b, 0, none⟩)] (by kernel_rfl) (run_callE en_copyCheck rfl rfl (by kernel_rfl)) (copy_none b n v xs hM) ?_
  rintro _ a w - hK hM
  replace hM := hM.to (.row b 55 [.pointer (some ⟨b, 0, none⟩), v] :: .own 5 1 v n xs :: rest) (by kernel_rfl)
  refine region_done hK [(5, .nilIface), (4, .int .i64 0), (0, .pointer (some ⟨b, 0, none⟩)), (1, Str s)] ⟨rfl, rfl, rfl, rfl, trivial⟩ fun a hK => ?_
  refine wp_seq ?_
  refine region_go (lst := [0, 1, 2, 3, 4, 5, 6, 7, 8, 9]) (by kernel_rfl) ?_
  refine stepM hK 8 0 (by kernel_rfl) (.inl rfl) rfl fun a hK => ?_
  refine stepM hK 9 0 (by kernel_rfl) (.inl rfl) rfl fun a hK => ?_
  refine stepP hK 10 (.pointer (some ⟨b, 0, none⟩)) (by kernel_rfl) (by kernel_rfl) fun a hK => ?_
  refine stepP hK 11 (.pointer (some ⟨b, 1, none⟩)) (by kernel_rfl) (by kernel_rfl) fun a hK => ?_
  refine stepLoad hK 12 v (by kernel_rfl) rfl rfl ((hM.row 0 rfl).cells 1 1) (by kernel_rfl) fun a hK => ?_
  refine stepM hK 13 1 (by kernel_rfl) (.inl rfl) rfl fun a hK => ?_
  refine stepAppendStr hK hM 14 1 Tryd.underlying53 Tryd.underlying9 elem_u8 (by kernel_rfl) rfl rfl rfl rfl (by omega) ⟨⟨_, rfl, by decide⟩, hrest⟩ ?_
  intro v2 a w hK hM
  replace hM := hM.to (.row b 55 [.pointer (some ⟨b, 0, none⟩), v] :: .own 5 1 v2 (n + s.length) (xs ++ Lib.byteCells s) :: rest) (by kernel_rfl)
  obtain ⟨A3, q3, c3, rfl⟩ := hM.slc 1 rfl
  refine stepP hK 15 (.pointer (some ⟨b, 0, none⟩)) (by kernel_rfl) (by kernel_rfl) fun a hK => ?_
  refine stepP hK 16 (.pointer (some ⟨b, 1, none⟩)) (by kernel_rfl) (by kernel_rfl) fun a hK => ?_
  refine stepStore hK hM 0 [.pointer (some ⟨b, 0, none⟩), .slice A3 q3 c3] (by kernel_rfl) rfl rfl rfl rfl (by kernel_rfl) fun w hM => ?_
  replace hM := hM.to (.row b 55 [.pointer (some ⟨b, 0, none⟩), .slice A3 q3 c3] :: .own 5 1 (.slice A3 q3 c3) (n + s.length) (xs ++ Lib.byteCells s) :: rest) (by kernel_rfl)
  refine region_done hK [(5, .nilIface), (4, .int .i64 0), (0, .pointer (some ⟨b, 0, none⟩)), (1, Str s)] ⟨rfl, rfl, rfl, rfl, trivial⟩ fun a hK => ?_
  refine wp_seq ?_
  refine region_go (lst := [0, 1, 2, 3]) (by kernel_rfl) ?_
  refine stepM hK 17 1 (by kernel_rfl) (.inl rfl) rfl fun a hK => ?_
  refine stepP hK 18 (.int .i64 ((s.length : Nat) : Int)) (by kernel_rfl) (by kernel_rfl) fun a hK => ?_
  refine stepM hK 4 18 (by kernel_rfl) (.inr rfl) rfl fun a hK => ?_
  refine stepP hK 5 (.nilIface) (by kernel_rfl) (by kernel_rfl) fun a hK => ?_
  refine region_done hK [(5, .nilIface), (4, .int .i64 ((s.length : Nat) : Int)), (0, .pointer (some ⟨b, 0, none⟩)), (1, Str s)] ⟨rfl, rfl, rfl, rfl, trivial⟩ fun a hK => ?_
  refine wp_ret ?_
  exact ret_tt hK rfl (u := (.int .i64 ((s.length : Nat) : Int))) (v := (.nilIface)) rfl rfl (⟨(.slice A3 q3 c3), rfl, hM, trivial⟩)
set_option maxRecDepth 100000 in
set_option maxHeartbeats 4000000 in
theorem wb_self (b n : Nat) (c : UInt8) (v : Value) (xs : List Value) (hn : n ≤ 100000000) {W0 w0 : World} {rest : List It} (hM0 : Mem W0 w0 (.row b 55 [.pointer (some ⟨b, 0, none⟩), v] :: .own 5 1 v n xs :: rest)) : Calls Tryd.prog 33 #[.pointer (some ⟨b, 0, none⟩), .int .u8 ((c.toNat : Nat) : Int)] w0 (Gives W0 (fun _ : Value => .nilIface) (fun v2 => (.row b 55 [.pointer (some ⟨b, 0, none⟩), v2] :: .own 5 1 v2 (n + 1) (xs ++ [.int .u8 ((c.toNat : Nat) : Int)]) :: rest)) fun _ => True) := by
  refine calls_KM (args := [.pointer (some ⟨b, 0, none⟩), .int .u8 ((c.toNat : Nat) : Int)]) (n := 17) (env := [(0, .pointer (some ⟨b, 0, none⟩)), (1, .int .u8 ((c.toNat : Nat) : Int))]) Tryd.func33 rfl rfl rfl ⟨rfl, rfl, trivial⟩ hM0 fun a w hK hM => ?_
  refine wp_seq ?_
  refine region_go (lst := [0]) (by kernel_rfl) ?_
  refine stepP hK 4 (.nilIface) (by kernel_rfl) (by kernel_rfl) fun a hK => ?_
  refine region_done hK [(4, .nilIface), (0, .pointer (some ⟨b, 0, none⟩)), (1, .int .u8 ((c.toNat : Nat) : Int))] ⟨rfl, rfl, rfl, trivial⟩ fun a hK => ?_
  refine wp_seq ?_
  refine region_go (lst := [0, 1]) (by kernel_rfl) ?_
  refine stepM hK 5 0 (by kernel_rfl) (.inl rfl) rfl fun a hK => ?_
  refine stepCallIn hK 6 #[.pointer (some ⟨b, 0, none⟩)] (by kernel_rfl) (run_callE en_copyCheck rfl rfl (by kernel_rfl)) (copy_self b n v xs hM) ?_
  rintro _ a w - hK hM
  replace hM := hM.to (.row b 55 [.pointer (some ⟨b, 0, none⟩), v] :: .own 5 1 v n xs :: rest) (by kernel_rfl)
  refine region_done hK [(4, .nilIface), (0, .pointer (some ⟨b, 0, none⟩)), (1, .int .u8 ((c.toNat : Nat) : Int))] ⟨rfl, rfl, rfl, trivial⟩ fun a hK => ?_
  refine wp_seq ?_
  refine region_go (lst := [0, 1, 2, 3, 4, 5, 6, 7, 8, 9, 10]) (by kernel_rfl) ?_
  refine stepM hK 7 0 (by kernel_rfl) (.inl rfl) rfl fun a hK => ?_
  refine stepM hK 8 0 (by kernel_rfl) (.inl rfl) rfl fun a hK => ?_
  refine stepP hK 9 (.pointer (some ⟨b, 0, none⟩)) (by kernel_rfl) (by kernel_rfl) fun a hK => ?_
  refine stepP hK 10 (.pointer (some ⟨b, 1, none⟩)) (by kernel_rfl) (by kernel_rfl) fun a hK => ?_
  refine stepLoad hK 11 v (by kernel_rfl) rfl rfl ((hM.row 0 rfl).cells 1 1) (by kernel_rfl) fun a hK => ?_
  refine stepM hK 12 1 (by kernel_rfl) (.inl rfl) rfl fun a hK => ?_
  refine stepAlloc hK hM 13 5 [.int .u8 ((c.toNat : Nat) : Int)] (fun b => .slice (some ⟨b, 0, none⟩) 1 1) (by kernel_rfl) (by kernel_rfl) fun b2 a w hK hM => ?_
  refine stepAppend hK hM 14 2 0 (ety := 5) (size := 1) (m := 1) (news := [.int .u8 ((c.toNat : Nat) : Int)]) Tryd.underlying53 elem_u8 (by kernel_rfl) rfl rfl rfl rfl rfl rfl (by kernel_rfl) ⟨by omega, by decide⟩ ?_
  intro v3 a w hK hM
  replace hM := hM.to (.row b2 5 [.int .u8 ((c.toNat : Nat) : Int)] :: .row b 55 [.pointer (some ⟨b, 0, none⟩), v] :: .own 5 1 v3 (n + 1) (xs ++ [.int .u8 ((c.toNat : Nat) : Int)]) :: rest) (by kernel_rfl)
  obtain ⟨A4, q4, c4, rfl⟩ := hM.slc 2 rfl
  refine stepP hK 15 (.pointer (some ⟨b, 0, none⟩)) (by kernel_rfl) (by kernel_rfl) fun a hK => ?_
  refine stepP hK 16 (.pointer (some ⟨b, 1, none⟩)) (by kernel_rfl) (by kernel_rfl) fun a hK => ?_
  refine stepStore hK hM 1 [.pointer (some ⟨b, 0, none⟩), .slice A4 q4 c4] (by kernel_rfl) rfl rfl rfl rfl (by kernel_rfl) fun w hM => ?_
  replace hM := hM.to (.row b2 5 [.int .u8 ((c.toNat : Nat) : Int)] :: .row b 55 [.pointer (some ⟨b, 0, none⟩), .slice A4 q4 c4] :: .own 5 1 (.slice A4 q4 c4) (n + 1) (xs ++ [.int .u8 ((c.toNat : Nat) : Int)]) :: rest) (by kernel_rfl)
  refine region_done hK [(4, .nilIface), (0, .pointer (some ⟨b, 0, none⟩)), (1, .int .u8 ((c.toNat : Nat) : Int))] ⟨rfl, rfl, rfl, trivial⟩ fun a hK => ?_
  refine wp_seq ?_
  refine region_go (lst := [0]) (by kernel_rfl) ?_
  refine stepP hK 4 (.nilIface) (by kernel_rfl) (by kernel_rfl) fun a hK => ?_
  refine region_done hK [(4, .nilIface), (0, .pointer (some ⟨b, 0, none⟩)), (1, .int .u8 ((c.toNat : Nat) : Int))] ⟨rfl, rfl, rfl, trivial⟩ fun a hK => ?_
  refine wp_ret ?_
  exact ret_t hK rfl (u := (.nilIface)) rfl (⟨(.slice A4 q4 c4), rfl, (hM.drop 1).to _ rfl, trivial⟩)
set_option maxRecDepth 100000 in
set_option maxHeartbeats 4000000 in
theorem ws_self (b n : Nat) (s : List UInt8) (v : Value) (xs : List Value) (hn : n ≤ 100000000) (hs : s.length ≤ 100000000) {W0 w0 : World} {rest : List It} (hM0 : Mem W0 w0 (.row b 55 [.pointer (some ⟨b, 0, none⟩), v] :: .own 5 1 v n xs :: rest)) (hrest : NoTag 5 rest) : Calls Tryd.prog 34 #[.pointer (some ⟨b, 0, none⟩), Str s] w0 (Gives W0 (fun _ : Value => .tuple #[.int .i64 ((s.length : Nat) : Int), .nilIface]) (fun v2 => (.row b 55 [.pointer (some ⟨b, 0, none⟩), v2] :: .own 5 1 v2 (n + s.length) (xs ++ Lib.byteCells s) :: rest)) fun _ => True) := by
  refine calls_KM (args := [.pointer (some ⟨b, 0, none⟩), Str s]) (n := 19) (env := [(0, .pointer (some ⟨b, 0, none⟩)), (1, Str s)]) Tryd.func34 rfl rfl rfl ⟨rfl, rfl, trivial⟩ hM0 fun a w hK hM => ?_
  refine wp_seq ?_
  refine region_go (lst := [0, 1]) (by kernel_rfl) ?_
  refine stepP hK 4 (.int .i64 0) (by kernel_rfl) (by kernel_rfl) fun a hK => ?_
  refine stepP hK 5 (.nilIface) (by kernel_rfl) (by kernel_rfl) fun a hK => ?_
  refine region_done hK [(5, .nilIface), (4, .int .i64 0), (0, .pointer (some ⟨b, 0, none⟩)), (1, Str s)] ⟨rfl, rfl, rfl, rfl, trivial⟩ fun a hK => ?_
  refine wp_seq ?_
  refine region_go (lst := [0, 1]) (by kernel_rfl) ?_
  refine stepM hK 6 0 (by kernel_rfl) (.inl rfl) rfl fun a hK => ?_
  refine stepCallIn hK 7 #[.pointer (some ⟨b, 0, none⟩)] (by kernel_rfl) (run_callE en_copyCheck rfl rfl (by kernel_rfl)) (copy_self b n v xs hM) ?_
  rintro _ a w - hK hM
  replace hM := hM.to (.row b 55 [.pointer (some ⟨b, 0, none⟩), v] :: .own 5 1 v n xs :: rest) (by kernel_rfl)
  refine region_done hK [(5, .nilIface), (4, .int .i64 0), (0, .pointer (some ⟨b, 0, none⟩)), (1, Str s)] ⟨rfl, rfl, rfl, rfl, trivial⟩ fun a hK => ?_
  refine wp_seq ?_
  refine region_go (lst := [0, 1, 2, 3, 4, 5, 6, 7, 8, 9]) (by kernel_rfl) ?_
  refine stepM hK 8 0 (by kernel_rfl) (.inl rfl) rfl fun a hK => ?_
  refine stepM hK 9 0 (by kernel_rfl) (.inl rfl) rfl fun a hK => ?_
  refine stepP hK 10 (.pointer (some ⟨b, 0, none⟩)) (by kernel_rfl) (by kernel_rfl) fun a hK => ?_
  refine stepP hK 11 (.pointer (some ⟨b, 1, none⟩)) (by kernel_rfl) (by kernel_rfl) fun a hK => ?_
  refine stepLoad hK 12 v (by kernel_rfl) rfl rfl ((hM.row 0 rfl).cells 1 1) (by kernel_rfl) fun a hK => ?_
  refine stepM hK 13 1 (by kernel_rfl) (.inl rfl) rfl fun a hK => ?_
  refine stepAppendStr hK hM 14 1 Tryd.underlying53 Tryd.underlying9 elem_u8 (by kernel_rfl) rfl rfl rfl rfl (by omega) ⟨⟨_, rfl, by decide⟩, hrest⟩ ?_
  intro v2 a w hK hM
  replace hM := hM.to (.row b 55 [.pointer (some ⟨b, 0, none⟩), v] :: .own 5 1 v2 (n + s.length) (xs ++ Lib.byteCells s) :: rest) (by kernel_rfl)
  obtain ⟨A3, q3, c3, rfl⟩ := hM.slc 1 rfl
  refine stepP hK 15 (.pointer (some ⟨b, 0, none⟩)) (by kernel_rfl) (by kernel_rfl) fun a hK => ?_
  refine stepP hK 16 (.pointer (some ⟨b, 1, none⟩)) (by kernel_rfl) (by kernel_rfl) fun a hK => ?_
  refine stepStore hK hM 0 [.pointer (some ⟨b, 0, none⟩), .slice A3 q3 c3] (by kernel_rfl) rfl rfl rfl rfl (by kernel_rfl) fun w hM => ?_
  replace hM := hM.to (.row b 55 [.pointer (some ⟨b, 0, none⟩), .slice A3 q3 c3] :: .own 5 1 (.slice A3 q3 c3) (n + s.length) (xs ++ Lib.byteCells s) :: rest) (by kernel_rfl)
  refine region_done hK [(5, .nilIface), (4, .int .i64 0), (0, .pointer (some ⟨b, 0, none⟩)), (1, Str s)] ⟨rfl, rfl, rfl, rfl, trivial⟩ fun a hK => ?_
  refine wp_seq ?_
  refine region_go (lst := [0, 1, 2, 3]) (by kernel_rfl) ?_
  refine stepM hK 17 1 (by kernel_rfl) (.inl rfl) rfl fun a hK => ?_
  refine stepP hK 18 (.int .i64 ((s.length : Nat) : Int)) (by kernel_rfl) (by kernel_rfl) fun a hK => ?_
  refine stepM hK 4 18 (by kernel_rfl) (.inr rfl) rfl fun a hK => ?_
  refine stepP hK 5 (.nilIface) (by kernel_rfl) (by kernel_rfl) fun a hK => ?_
  refine region_done hK [(5, .nilIface), (4, .int .i64 ((s.length : Nat) : Int)), (0, .pointer (some ⟨b, 0, none⟩)), (1, Str s)] ⟨rfl, rfl, rfl, rfl, trivial⟩ fun a hK => ?_
  refine wp_ret ?_
  exact ret_tt hK rfl (u := (.int .i64 ((s.length : Nat) : Int))) (v := (.nilIface)) rfl rfl (⟨(.slice A3 q3 c3), rfl, hM, trivial⟩)
theorem en_WriteByte : Enters Tryd.prog 33 := enters_of Tryd.func33 (by kernel_rfl) rfl
theorem en_WriteString : Enters Tryd.prog 34 := enters_of Tryd.func34 (by kernel_rfl) rfl
theorem en_String : Enters Tryd.prog 35 := enters_of Tryd.func35 (by kernel_rfl) rfl
/-- Texts with one blank between. -/
def joinT : List (List UInt8) → List UInt8
  | [] => []
  | x :: r => x ++ r.flatMap fun y => 32 :: y
theorem joinT_snoc (l : List (List UInt8)) (x : List UInt8) : joinT (l ++ [x]) = if l = [] then x else joinT l ++ 32 :: x := by
  cases l with
  | nil => simp [joinT]
  | cons y r => simp [joinT]
theorem joinT_grow (l m : List (List UInt8)) : (joinT l).length ≤ (joinT (l ++ m)).length := by
  cases l with
  | nil => exact Nat.zero_le _
  | cons y r => simp [joinT]
theorem take_snoc {α : Type} {l : List α} {i : Nat} {x : α} (h : l[i]? = some x) : l.take (i + 1) = l.take i ++ [x] := by
  rw [List.take_add_one, h]; rfl
/-- The text of the first i. -/
def joinTo (ts : List Tk4) (i : Nat) : List UInt8 := joinT ((ts.take i).map (·.2.1))
theorem joinTo_le (ts : List Tk4) (i : Nat) : (joinTo ts i).length ≤ (joinT (ts.map (·.2.1))).length := by
  have := joinT_grow ((ts.take i).map (·.2.1)) ((ts.drop i).map (·.2.1))
  rwa [← List.map_append, List.take_append_drop] at this
theorem joinTo_zero (ts : List Tk4) : joinTo ts 0 = [] := rfl
theorem joinTo_one {ts : List Tk4} {t : Tk4} (h : ts[0]? = some t) : joinTo ts 1 = t.2.1 := by
  unfold joinTo; rw [take_snoc h]; simp [joinT]
theorem joinTo_succ {ts : List Tk4} {i : Nat} {t : Tk4} (h : ts[i]? = some t) (hi : 0 < i) : joinTo ts (i + 1) = (joinTo ts i ++ [32]) ++ t.2.1 := by
  unfold joinTo
  rw [take_snoc h, List.map_append, List.map_singleton, joinT_snoc, if_neg]
  · simp
  · intro e
    have h1 := congrArg List.length e
    have h2 := (List.getElem?_eq_some_iff.1 h).1
    rw [List.length_map, List.length_take, List.length_nil] at h1; omega
theorem joinTo_first {ts : List Tk4} {i : Nat} {t : Tk4} (hi : i = 0) (h : ts[i]? = some t) : joinTo ts (i + 1) = joinTo ts i ++ t.2.1 := by
  subst hi; rw [joinTo_one h]; rfl
theorem joinTo_all (ts : List Tk4) : joinTo ts ts.length = joinT (ts.map (·.2.1)) := by unfold joinTo; rw [List.take_length]
abbrev IsA (b : Nat) (p : Value) : Prop := p = .pointer none ∨ p = .pointer (some ⟨b, 0, none⟩)
theorem byteCells_snoc (l : List UInt8) (c : UInt8) : Lib.byteCells (l ++ [c]) = Lib.byteCells l ++ [.int .u8 ((c.toNat : Nat) : Int)] := by simp [Lib.byteCells]
theorem byteCells_app (l m : List UInt8) : Lib.byteCells (l ++ m) = Lib.byteCells l ++ Lib.byteCells m := by simp [Lib.byteCells]
section
variable {W0 w0 : World} {rest : List It}
abbrev bld (b : Nat) (p v : Value) (l : List UInt8) (rest : List It) : List It := .row b 55 [p, v] :: .own 5 1 v l.length (Lib.byteCells l) :: rest
theorem bld_byte (b : Nat) (p v : Value) (l : List UInt8) (hp : IsA b p) (hl : l.length ≤ 100000000) (hM : Mem W0 w0 (bld b p v l rest)) : Calls Tryd.prog 33 #[.pointer (some ⟨b, 0, none⟩), .int .u8 32] w0 (Gives W0 (fun _ : Value => .nilIface) (fun v2 => bld b (.pointer (some ⟨b, 0, none⟩)) v2 (l ++ [32]) rest) fun _ => True) := by
  have e : ∀ v2, bld b (.pointer (some ⟨b, 0, none⟩)) v2 (l ++ [32]) rest = .row b 55 [.pointer (some ⟨b, 0, none⟩), v2] :: .own 5 1 v2 (l.length + 1) (Lib.byteCells l ++ [.int .u8 (((32 : UInt8).toNat : Nat) : Int)]) :: rest := fun v2 => by
    unfold bld; rw [byteCells_snoc, List.length_append]; rfl
  simp only [e]
  rcases hp with rfl | rfl
  · exact wb_none b _ 32 v _ hl hM
  · exact wb_self b _ 32 v _ hl hM
theorem bld_str (b : Nat) (p v : Value) (l s : List UInt8) (hp : IsA b p) (hl : l.length ≤ 100000000) (hs : s.length ≤ 100000000) (hrest : NoTag 5 rest) (hM : Mem W0 w0 (bld b p v l rest)) : Calls Tryd.prog 34 #[.pointer (some ⟨b, 0, none⟩), Str s] w0 (Gives W0 (fun _ : Value => .tuple #[.int .i64 ((s.length : Nat) : Int), .nilIface]) (fun v2 => bld b (.pointer (some ⟨b, 0, none⟩)) v2 (l ++ s) rest) fun _ => True) := by
  have e : ∀ v2, bld b (.pointer (some ⟨b, 0, none⟩)) v2 (l ++ s) rest = .row b 55 [.pointer (some ⟨b, 0, none⟩), v2] :: .own 5 1 v2 (l.length + s.length) (Lib.byteCells l ++ Lib.byteCells s) :: rest := fun v2 => by
    unfold bld; rw [byteCells_app, List.length_append]
  simp only [e]
  rcases hp with rfl | rfl
  · exact ws_none b _ s v _ hl hs hM hrest
  · exact ws_self b _ s v _ hl hs hM hrest
theorem bld_text (b : Nat) (p v : Value) (l : List UInt8) (hp : IsA b p) (hM : Mem W0 w0 (bld b p v l rest)) : Calls Tryd.prog 35 #[.pointer (some ⟨b, 0, none⟩)] w0 (Gives W0 (fun _ : Unit => Str l) (fun _ => []) fun _ => True) := by
  have hrow := hM.row 0 rfl
  have hown := hM.own 1 rfl
  have hfar := hM.far (i := 0) (j := 1) (by decide) rfl rfl
  have hb := (hM.each _ (List.mem_of_getElem? (i := 0) rfl)).1
  have hlen : (Lib.byteCells l).length = l.length := Lib.byteCells_length l
  have hne : v.ownBlock ≠ some b := by
    intro e
    rcases hfar with h | h | h
    · cases h
    · have h' : v.ownBlock = none := h
      rw [e] at h'; cases h'
    · exact h e.symm
  have hat : Lib.BuilderAt 55 5 W0.heap.size b p (Lib.byteCells l) w0 := ⟨hb, v, hrow, by rw [hlen]; exact hown, hne⟩
  have his : Lib.IsBuilderF 55 5 W0.heap.size b (Lib.byteCells l) w0 := Lib.IsBuilderF.of (by
    rcases hp with rfl | rfl
    · exact .inl hat
    · exact .inr hat)
  refine (Tryd.Builder_String_any_k W0.heap.size b l w0 his hM.size).mono ?_
  rintro e w' ⟨rfl, _, hbel, _⟩
  exact ⟨(), rfl, ⟨hM.below.trans hbel, by simp, .nil⟩, trivial⟩
end
theorem text_le {ts : List Tk4} {i : Nat} {t : Tk4} (h : ts[i]? = some t) : t.2.1.length ≤ (joinT (ts.map (·.2.1))).length := by
  have h1 := joinTo_le ts (i + 1)
  rcases Nat.eq_zero_or_pos i with rfl | hi
  · rw [joinTo_one h] at h1; exact h1
  · rw [joinTo_succ h hi, List.length_append] at h1; omega
set_option maxRecDepth 100000 in
set_option maxHeartbeats 4000000 in
theorem lex_Join_ (A : Option Addr) (n c : Nat) (ta : List Tk4) (w0 : World) (hn : n = ta.length) (hbig : n ≤ 100000000) (htot : (joinT (ta.map (·.2.1))).length ≤ 10000000) (ha : ∀ k t, ta[k]? = some t → ∃ a, A = some a ∧ CellsAt w0 (a.add (k * 4)) (c4 t)) : Calls Tryd.prog 17 #[.slice A n c] w0 (Ret w0 (Str (joinT (ta.map (·.2.1))))) := by
  refine calls_K (args := [.slice A n c]) (n := 21) (env := [(0, .slice A n c)]) Tryd.func17 rfl rfl rfl ⟨rfl, trivial⟩ fun a w hK hM => ?_
  refine wp_seq ?_
  refine region_go (lst := [0]) (by kernel_rfl) ?_
  refine stepP hK 2 (Str []) (by kernel_rfl) (by kernel_rfl) fun a hK => ?_
  refine region_done hK [(2, Str []), (0, .slice A n c)] ⟨rfl, rfl, trivial⟩ fun a hK => ?_
  refine wp_seq ?_
  refine region_go (lst := [0]) (by kernel_rfl) ?_
  refine stepAlloc hK hM 3 55 [.pointer none, .slice none 0 0] (fun b => .pointer (some ⟨b, 0, none⟩)) (by kernel_rfl) (by kernel_rfl) fun b1 a w hK hM => ?_
  refine region_done hK [(3, .pointer (some ⟨b1, 0, none⟩)), (2, Str []), (0, .slice A n c)] ⟨rfl, rfl, rfl, trivial⟩ fun a hK => ?_
  refine wp_seq ?_
  refine wp_seq ?_
  refine region_go (lst := [0, 1, 2]) (by kernel_rfl) ?_
  refine stepM hK 6 0 (by kernel_rfl) (.inl rfl) rfl fun a hK => ?_
  refine stepP hK 7 (.int .i64 ((n : Nat) : Int)) (by kernel_rfl) (by kernel_rfl) fun a hK => ?_
  refine stepP hK 8 (.int .i64 0) (by kernel_rfl) (by kernel_rfl) fun a hK => ?_
  refine region_done hK [(8, .int .i64 0), (7, .int .i64 ((n : Nat) : Int)), (6, .slice A n c), (3, .pointer (some ⟨b1, 0, none⟩)), (2, Str []), (0, .slice A n c)] ⟨rfl, rfl, rfl, rfl, rfl, rfl, trivial⟩ fun a hK => ?_
  refine wp_block ?_
  replace hM := hM.cons (it := .own 5 1 (.slice none 0 0) 0 []) (World.ownsRow_nil _ _ _ _) (fun _ _ => .inl rfl)
  replace hM := (hM.perm (List.Perm.swap _ _ _)).to [.row b1 55 [.pointer none, .slice none 0 0], .own 5 1 (.slice none 0 0) 0 []] (by kernel_rfl)
  refine wp_loopX (fun x : Nat × Value × Value => [(7, .int .i64 ((n : Nat) : Int)), (6, .slice A n c), (3, .pointer (some ⟨b1, 0, none⟩)), (2, Str []), (0, .slice A n c), (8, .int .i64 ((x.1 : Nat) : Int))]) (fun x : Nat × Value × Value => [.row b1 55 [x.2.1, x.2.2], .own 5 1 x.2.2 (joinTo ta x.1).length (Lib.byteCells (joinTo ta x.1))]) (fun x : Nat × Value × Value => x.1 ≤ n ∧ IsA b1 x.2.1) (fun x : Nat × Value × Value => n - x.1) (0, .pointer none, .slice none 0 0) (hK.sub ⟨rfl, rfl, rfl, rfl, rfl, rfl, trivial⟩) hM ⟨Nat.zero_le _, .inl rfl⟩ ?_
  rintro ⟨i, p, v⟩ a w hK hM hR
  replace hK : Knows a 21 [(7, .int .i64 ((n : Nat) : Int)), (6, .slice A n c), (3, .pointer (some ⟨b1, 0, none⟩)), (2, Str []), (0, .slice A n c), (8, .int .i64 ((i : Nat) : Int))] := hK
  replace hM : Mem w0 w [.row b1 55 [p, v], .own 5 1 v (joinTo ta i).length (Lib.byteCells (joinTo ta i))] := hM
  replace hR : i ≤ n ∧ IsA b1 p := hR
  refine wp_seq ?_
  refine region_go (lst := [0]) (by kernel_rfl) ?_
  by_cases h2 : (((i : Nat) : Int) : Int) < ((n : Nat) : Int)
  · refine stepP hK 9 (.bool true) (by kernel_rfl) (okBool (b := (decide ((((i : Nat) : Int) : Int) < ((n : Nat) : Int)))) (by kernel_rfl) (decide_eq_true h2)) fun a hK => ?_
    refine region_done hK [(9, .bool true), (7, .int .i64 ((n : Nat) : Int)), (6, .slice A n c), (3, .pointer (some ⟨b1, 0, none⟩)), (2, Str []), (0, .slice A n c), (8, .int .i64 ((i : Nat) : Int))] ⟨rfl, rfl, rfl, rfl, rfl, rfl, rfl, trivial⟩ fun a hK => ?_
    refine wp_seq ?_
    refine wp_cond_true (hK.get rfl) ?_
    refine wp_skip ?_
    refine wp_seq ?_
    refine wp_block ?_
    refine wp_seq ?_
    refine region_go (lst := [0, 1, 2, 3, 4, 5]) (by kernel_rfl) ?_
    refine stepM hK 10 8 (by kernel_rfl) (.inl rfl) rfl fun a hK => ?_
    obtain ⟨t3, ht3⟩ : ∃ t, ta[(i : Nat)]? = some t := ⟨_, List.getElem?_eq_getElem (by omega)⟩
    obtain ⟨at3, At3, ct3⟩ := ha _ _ ht3
    refine stepP hK 11 (.pointer (some (at3.add (i * 4)))) (by kernel_rfl) (run_ixA (k := i) (s := 4) rfl rfl At3 rfl Tryd.underlying29 (by kernel_rfl) (by omega)) fun a hK => ?_
    refine stepLoad hK 12 (.agg #[.int .i64 t3.1, Str t3.2.1, .int .i64 t3.2.2.1, .int .i64 t3.2.2.2]) (by kernel_rfl) rfl rfl ((ct3.on hM.below)) (by kernel_rfl) fun a hK => ?_
    refine stepAlloc hK hM 5 35 [.int .i64 0, Str [], .int .i64 0, .int .i64 0] (fun b => .pointer (some ⟨b, 0, none⟩)) (by kernel_rfl) (by kernel_rfl) fun b4 a w hK hM => ?_
    refine stepM hK 4 10 (by kernel_rfl) (.inr rfl) rfl fun a hK => ?_
    refine stepStore hK hM 0 [.int .i64 t3.1, Str t3.2.1, .int .i64 t3.2.2.1, .int .i64 t3.2.2.2] (by kernel_rfl) rfl rfl rfl rfl (by kernel_rfl) fun w hM => ?_
    replace hM := hM.to [.row b4 35 [.int .i64 t3.1, Str t3.2.1, .int .i64 t3.2.2.1, .int .i64 t3.2.2.2], .row b1 55 [p, v], .own 5 1 v (joinTo ta i).length (Lib.byteCells (joinTo ta i))] (by kernel_rfl)
    refine region_done hK [(4, .int .i64 ((i : Nat) : Int)), (5, .pointer (some ⟨b4, 0, none⟩)), (9, .bool true), (7, .int .i64 ((n : Nat) : Int)), (6, .slice A n c), (3, .pointer (some ⟨b1, 0, none⟩)), (2, Str []), (0, .slice A n c), (8, .int .i64 ((i : Nat) : Int))] ⟨rfl, rfl, rfl, rfl, rfl, rfl, rfl, rfl, rfl, trivial⟩ fun a hK => ?_
    refine wp_seq ?_
    refine wp_seq ?_
    refine region_go (lst := [0, 1]) (by kernel_rfl) ?_
    refine stepM hK 13 4 (by kernel_rfl) (.inl rfl) rfl fun a hK => ?_
    by_cases h5 : (0 : Int) < ((i : Nat) : Int)
    · refine stepP hK 14 (.bool true) (by kernel_rfl) (okBool (b := (decide ((0 : Int) < ((i : Nat) : Int)))) (by kernel_rfl) (decide_eq_true h5)) fun a hK => ?_
      refine region_done hK [(14, .bool true), (4, .int .i64 ((i : Nat) : Int)), (5, .pointer (some ⟨b4, 0, none⟩)), (9, .bool true), (7, .int .i64 ((n : Nat) : Int)), (6, .slice A n c), (3, .pointer (some ⟨b1, 0, none⟩)), (2, Str []), (0, .slice A n c), (8, .int .i64 ((i : Nat) : Int))] ⟨rfl, rfl, rfl, rfl, rfl, rfl, rfl, rfl, rfl, rfl, trivial⟩ fun a hK => ?_
      refine wp_cond_true (hK.get rfl) ?_
      refine region_go (lst := [0]) (by kernel_rfl) ?_
      replace hM := (hM.perm (List.perm_append_comm (l₁ := ([.row b4 35 [.int .i64 t3.1, Str t3.2.1, .int .i64 t3.2.2.1, .int .i64 t3.2.2.2]] : List It)) (l₂ := ([.row b1 55 [p, v], .own 5 1 v (joinTo ta i).length (Lib.byteCells (joinTo ta i))] : List It)))).to [.row b1 55 [p, v], .own 5 1 v (joinTo ta i).length (Lib.byteCells (joinTo ta i)), .row b4 35 [.int .i64 t3.1, Str t3.2.1, .int .i64 t3.2.2.1, .int .i64 t3.2.2.2]] (by kernel_rfl)
      refine stepCallIn hK 15 #[.pointer (some ⟨b1, 0, none⟩), .int .u8 32] (by kernel_rfl) (run_callE en_WriteByte rfl rfl (by kernel_rfl)) (bld_byte (rest := [.row b4 35 [.int .i64 t3.1, Str t3.2.1, .int .i64 t3.2.2.1, .int .i64 t3.2.2.2]]) b1 p v (joinTo ta i) hR.2 (by have := joinTo_le ta i; omega) hM) ?_
      rintro v6 a w - hK hM
      replace hM := hM.to [.row b1 55 [.pointer (some ⟨b1, 0, none⟩), v6], .own 5 1 v6 ((joinTo ta i) ++ ([32] : List UInt8)).length (Lib.byteCells ((joinTo ta i) ++ ([32] : List UInt8))), .row b4 35 [.int .i64 t3.1, Str t3.2.1, .int .i64 t3.2.2.1, .int .i64 t3.2.2.2]] (by kernel_rfl)
      refine region_done hK [(14, .bool true), (4, .int .i64 ((i : Nat) : Int)), (5, .pointer (some ⟨b4, 0, none⟩)), (9, .bool true), (7, .int .i64 ((n : Nat) : Int)), (6, .slice A n c), (3, .pointer (some ⟨b1, 0, none⟩)), (2, Str []), (0, .slice A n c), (8, .int .i64 ((i : Nat) : Int))] ⟨rfl, rfl, rfl, rfl, rfl, rfl, rfl, rfl, rfl, rfl, trivial⟩ fun a hK => ?_
      have hmem := ht3
      refine region_go (lst := [0, 1, 2]) (by kernel_rfl) ?_
      refine stepP hK 16 (.pointer (some ⟨b4, 1, none⟩)) (by kernel_rfl) (by kernel_rfl) fun a hK => ?_
      refine stepLoad hK 17 (Str t3.2.1) (by kernel_rfl) rfl rfl ((hM.row 2 rfl).cells 1 1) (by kernel_rfl) fun a hK => ?_
      refine stepCallIn hK 18 #[.pointer (some ⟨b1, 0, none⟩), Str t3.2.1] (by kernel_rfl) (run_callE en_WriteString rfl rfl (by kernel_rfl)) (bld_str (rest := [.row b4 35 [.int .i64 t3.1, Str t3.2.1, .int .i64 t3.2.2.1, .int .i64 t3.2.2.2]]) b1 (.pointer (some ⟨b1, 0, none⟩)) v6 ((joinTo ta i) ++ ([32] : List UInt8)) t3.2.1 (.inr rfl) (by have := joinTo_le ta i; first | omega | (rw [List.length_append]; simp only [List.length_cons, List.length_nil]; omega)) (by have := text_le hmem; omega) (⟨⟨_, rfl, by decide⟩, trivial⟩) hM) ?_
      rintro v8 a w - hK hM
      replace hM := hM.to [.row b1 55 [.pointer (some ⟨b1, 0, none⟩), v8], .own 5 1 v8 (((joinTo ta i) ++ ([32] : List UInt8)) ++ t3.2.1 : List UInt8).length (Lib.byteCells (((joinTo ta i) ++ ([32] : List UInt8)) ++ t3.2.1 : List UInt8)), .row b4 35 [.int .i64 t3.1, Str t3.2.1, .int .i64 t3.2.2.1, .int .i64 t3.2.2.2]] (by kernel_rfl)
      refine region_done hK [(14, .bool true), (4, .int .i64 ((i : Nat) : Int)), (5, .pointer (some ⟨b4, 0, none⟩)), (9, .bool true), (7, .int .i64 ((n : Nat) : Int)), (6, .slice A n c), (3, .pointer (some ⟨b1, 0, none⟩)), (2, Str []), (0, .slice A n c), (8, .int .i64 ((i : Nat) : Int))] ⟨rfl, rfl, rfl, rfl, rfl, rfl, rfl, rfl, rfl, rfl, trivial⟩ fun a hK => ?_
      refine region_go (lst := [0, 1]) (by kernel_rfl) ?_
      refine stepP hK 19 (.int .i64 (((i + 1) : Nat) : Int)) (by kernel_rfl) (run_addN (i := i) (j := 1) rfl rfl rfl (by omega)) fun a hK => ?_
      refine stepM hK 8 19 (by kernel_rfl) (.inl rfl) rfl fun a hK => ?_
      refine region_done hK [(8, .int .i64 (((i + 1) : Nat) : Int)), (14, .bool true), (4, .int .i64 ((i : Nat) : Int)), (5, .pointer (some ⟨b4, 0, none⟩)), (9, .bool true), (7, .int .i64 ((n : Nat) : Int)), (6, .slice A n c), (3, .pointer (some ⟨b1, 0, none⟩)), (2, Str []), (0, .slice A n c)] ⟨rfl, rfl, rfl, rfl, rfl, rfl, rfl, rfl, rfl, rfl, trivial⟩ fun a hK => ?_
      have hj : joinTo ta (i + 1) = (((joinTo ta i) ++ ([32] : List UInt8)) ++ t3.2.1 : List UInt8) := joinTo_succ ht3 (by omega)
      replace hM := (hM.perm (List.perm_append_comm (l₁ := ([.row b1 55 [.pointer (some ⟨b1, 0, none⟩), v8], .own 5 1 v8 (((joinTo ta i) ++ ([32] : List UInt8)) ++ t3.2.1 : List UInt8).length (Lib.byteCells (((joinTo ta i) ++ ([32] : List UInt8)) ++ t3.2.1 : List UInt8))] : List It)) (l₂ := ([.row b4 35 [.int .i64 t3.1, Str t3.2.1, .int .i64 t3.2.2.1, .int .i64 t3.2.2.2]] : List It)))).to [.row b4 35 [.int .i64 t3.1, Str t3.2.1, .int .i64 t3.2.2.1, .int .i64 t3.2.2.2], .row b1 55 [.pointer (some ⟨b1, 0, none⟩), v8], .own 5 1 v8 (joinTo ta (i + 1)).length (Lib.byteCells (joinTo ta (i + 1)))] (by rw [hj]; try rfl)
      have hRn : (i + 1) ≤ n ∧ IsA b1 (.pointer (some ⟨b1, 0, none⟩)) := ⟨by omega, .inr rfl⟩
      have hmn : n - (i + 1) < n - i := by omega
      exact ⟨(i + 1, .pointer (some ⟨b1, 0, none⟩), v8), hK.sub ⟨rfl, rfl, rfl, rfl, rfl, rfl, trivial⟩, (hM.drop 1), hRn, hmn⟩
    · refine stepP hK 14 (.bool false) (by kernel_rfl) (okBool (b := (decide ((0 : Int) < ((i : Nat) : Int)))) (by kernel_rfl) (decide_eq_false h5)) fun a hK => ?_
      refine region_done hK [(14, .bool false), (4, .int .i64 ((i : Nat) : Int)), (5, .pointer (some ⟨b4, 0, none⟩)), (9, .bool true), (7, .int .i64 ((n : Nat) : Int)), (6, .slice A n c), (3, .pointer (some ⟨b1, 0, none⟩)), (2, Str []), (0, .slice A n c), (8, .int .i64 ((i : Nat) : Int))] ⟨rfl, rfl, rfl, rfl, rfl, rfl, rfl, rfl, rfl, rfl, trivial⟩ fun a hK => ?_
      refine wp_cond_false (hK.get rfl) ?_
      refine wp_skip ?_
      have hmem := ht3
      refine region_go (lst := [0, 1, 2]) (by kernel_rfl) ?_
      refine stepP hK 16 (.pointer (some ⟨b4, 1, none⟩)) (by kernel_rfl) (by kernel_rfl) fun a hK => ?_
      refine stepLoad hK 17 (Str t3.2.1) (by kernel_rfl) rfl rfl ((hM.row 0 rfl).cells 1 1) (by kernel_rfl) fun a hK => ?_
      replace hM := (hM.perm (List.perm_append_comm (l₁ := ([.row b4 35 [.int .i64 t3.1, Str t3.2.1, .int .i64 t3.2.2.1, .int .i64 t3.2.2.2]] : List It)) (l₂ := ([.row b1 55 [p, v], .own 5 1 v (joinTo ta i).length (Lib.byteCells (joinTo ta i))] : List It)))).to [.row b1 55 [p, v], .own 5 1 v (joinTo ta i).length (Lib.byteCells (joinTo ta i)), .row b4 35 [.int .i64 t3.1, Str t3.2.1, .int .i64 t3.2.2.1, .int .i64 t3.2.2.2]] (by kernel_rfl)
      refine stepCallIn hK 18 #[.pointer (some ⟨b1, 0, none⟩), Str t3.2.1] (by kernel_rfl) (run_callE en_WriteString rfl rfl (by kernel_rfl)) (bld_str (rest := [.row b4 35 [.int .i64 t3.1, Str t3.2.1, .int .i64 t3.2.2.1, .int .i64 t3.2.2.2]]) b1 p v (joinTo ta i) t3.2.1 hR.2 (by have := joinTo_le ta i; first | omega | (rw [List.length_append]; simp only [List.length_cons, List.length_nil]; omega)) (by have := text_le hmem; omega) (⟨⟨_, rfl, by decide⟩, trivial⟩) hM) ?_
      rintro v10 a w - hK hM
      replace hM := hM.to [.row b1 55 [.pointer (some ⟨b1, 0, none⟩), v10], .own 5 1 v10 ((joinTo ta i) ++ t3.2.1 : List UInt8).length (Lib.byteCells ((joinTo ta i) ++ t3.2.1 : List UInt8)), .row b4 35 [.int .i64 t3.1, Str t3.2.1, .int .i64 t3.2.2.1, .int .i64 t3.2.2.2]] (by kernel_rfl)
      refine region_done hK [(14, .bool false), (4, .int .i64 ((i : Nat) : Int)), (5, .pointer (some ⟨b4, 0, none⟩)), (9, .bool true), (7, .int .i64 ((n : Nat) : Int)), (6, .slice A n c), (3, .pointer (some ⟨b1, 0, none⟩)), (2, Str []), (0, .slice A n c), (8, .int .i64 ((i : Nat) : Int))] ⟨rfl, rfl, rfl, rfl, rfl, rfl, rfl, rfl, rfl, rfl, trivial⟩ fun a hK => ?_
      refine region_go (lst := [0, 1]) (by kernel_rfl) ?_
      refine stepP hK 19 (.int .i64 (((i + 1) : Nat) : Int)) (by kernel_rfl) (run_addN (i := i) (j := 1) rfl rfl rfl (by omega)) fun a hK => ?_
      refine stepM hK 8 19 (by kernel_rfl) (.inl rfl) rfl fun a hK => ?_
      refine region_done hK [(8, .int .i64 (((i + 1) : Nat) : Int)), (14, .bool false), (4, .int .i64 ((i : Nat) : Int)), (5, .pointer (some ⟨b4, 0, none⟩)), (9, .bool true), (7, .int .i64 ((n : Nat) : Int)), (6, .slice A n c), (3, .pointer (some ⟨b1, 0, none⟩)), (2, Str []), (0, .slice A n c)] ⟨rfl, rfl, rfl, rfl, rfl, rfl, rfl, rfl, rfl, rfl, trivial⟩ fun a hK => ?_
      have hj : joinTo ta (i + 1) = ((joinTo ta i) ++ t3.2.1 : List UInt8) := joinTo_first (by omega) ht3
      replace hM := (hM.perm (List.perm_append_comm (l₁ := ([.row b1 55 [.pointer (some ⟨b1, 0, none⟩), v10], .own 5 1 v10 ((joinTo ta i) ++ t3.2.1 : List UInt8).length (Lib.byteCells ((joinTo ta i) ++ t3.2.1 : List UInt8))] : List It)) (l₂ := ([.row b4 35 [.int .i64 t3.1, Str t3.2.1, .int .i64 t3.2.2.1, .int .i64 t3.2.2.2]] : List It)))).to [.row b4 35 [.int .i64 t3.1, Str t3.2.1, .int .i64 t3.2.2.1, .int .i64 t3.2.2.2], .row b1 55 [.pointer (some ⟨b1, 0, none⟩), v10], .own 5 1 v10 (joinTo ta (i + 1)).length (Lib.byteCells (joinTo ta (i + 1)))] (by rw [hj]; try rfl)
      have hRn : (i + 1) ≤ n ∧ IsA b1 (.pointer (some ⟨b1, 0, none⟩)) := ⟨by omega, .inr rfl⟩
      have hmn : n - (i + 1) < n - i := by omega
      exact ⟨(i + 1, .pointer (some ⟨b1, 0, none⟩), v10), hK.sub ⟨rfl, rfl, rfl, rfl, rfl, rfl, trivial⟩, (hM.drop 1), hRn, hmn⟩
  · refine stepP hK 9 (.bool false) (by kernel_rfl) (okBool (b := (decide ((((i : Nat) : Int) : Int) < ((n : Nat) : Int)))) (by kernel_rfl) (decide_eq_false h2)) fun a hK => ?_
    refine region_done hK [(9, .bool false), (7, .int .i64 ((n : Nat) : Int)), (6, .slice A n c), (3, .pointer (some ⟨b1, 0, none⟩)), (2, Str []), (0, .slice A n c), (8, .int .i64 ((i : Nat) : Int))] ⟨rfl, rfl, rfl, rfl, rfl, rfl, rfl, trivial⟩ fun a hK => ?_
    refine wp_seq ?_
    refine wp_cond_false (hK.get rfl) ?_
    refine wp_exit (exit_then (exit_then (exit_here 0 ?_)))
    refine wp_seq ?_
    refine region_go (lst := [0, 1]) (by kernel_rfl) ?_
    refine stepCallIn hK 20 #[.pointer (some ⟨b1, 0, none⟩)] (by kernel_rfl) (run_callE en_String rfl rfl (by kernel_rfl)) (bld_text (rest := []) b1 p v (joinTo ta i) hR.2 hM) ?_
    rintro _ a w - hK hM
    replace hM := hM.to [] (by kernel_rfl)
    refine stepM hK 2 20 (by kernel_rfl) (.inr rfl) rfl fun a hK => ?_
    refine region_done hK [(2, Str (joinTo ta i)), (9, .bool false), (7, .int .i64 ((n : Nat) : Int)), (6, .slice A n c), (3, .pointer (some ⟨b1, 0, none⟩)), (0, .slice A n c), (8, .int .i64 ((i : Nat) : Int))] ⟨rfl, rfl, rfl, rfl, rfl, rfl, rfl, trivial⟩ fun a hK => ?_
    refine wp_ret ?_
    exact ret_t hK rfl (u := (Str (joinTo ta i))) rfl (⟨by rw [show i = n by omega, hn, joinTo_all], hM.below⟩)
theorem en_lex_Join : Enters Tryd.prog 17 := enters_of Tryd.func17 (by kernel_rfl) rfl
set_option maxRecDepth 100000 in
set_option maxHeartbeats 4000000 in
theorem ref_Join_ (A : Option Addr) (n c : Nat) (ta : List Tk4) (w0 : World) (hn : n = ta.length) (hbig : n ≤ 100000000) (htot : (joinT (ta.map (·.2.1))).length ≤ 10000000) (ha : ∀ k t, ta[k]? = some t → ∃ a, A = some a ∧ CellsAt w0 (a.add (k * 4)) (c4 t)) : Calls Tryd.prog 18 #[.slice A n c] w0 (Ret w0 (Str (joinT (ta.map (·.2.1))))) := by
  refine calls_K (args := [.slice A n c]) (n := 23) (env := [(0, .slice A n c)]) Tryd.func18 rfl rfl rfl ⟨rfl, trivial⟩ fun a w hK hM => ?_
  refine wp_seq ?_
  refine region_go (lst := [0]) (by kernel_rfl) ?_
  refine stepP hK 2 (Str []) (by kernel_rfl) (by kernel_rfl) fun a hK => ?_
  refine region_done hK [(2, Str []), (0, .slice A n c)] ⟨rfl, rfl, trivial⟩ fun a hK => ?_
  refine wp_seq ?_
  refine region_go (lst := [0]) (by kernel_rfl) ?_
  refine stepP hK 3 (Str []) (by kernel_rfl) (by kernel_rfl) fun a hK => ?_
  refine region_done hK [(3, Str []), (2, Str []), (0, .slice A n c)] ⟨rfl, rfl, rfl, trivial⟩ fun a hK => ?_
  refine wp_seq ?_
  refine wp_seq ?_
  refine region_go (lst := [0]) (by kernel_rfl) ?_
  refine stepP hK 4 (.int .i64 0) (by kernel_rfl) (by kernel_rfl) fun a hK => ?_
  refine region_done hK [(4, .int .i64 0), (3, Str []), (2, Str []), (0, .slice A n c)] ⟨rfl, rfl, rfl, rfl, trivial⟩ fun a hK => ?_
  refine wp_block ?_
  refine wp_loopX (fun x : Nat => [(2, Str []), (0, .slice A n c), (4, .int .i64 ((x : Nat) : Int)), (3, Str (joinTo ta x))]) (fun x : Nat => []) (fun x : Nat => x ≤ n) (fun x : Nat => n - x) 0 (hK.sub ⟨rfl, rfl, rfl, rfl, trivial⟩) hM (Nat.zero_le _) ?_
  rintro i a w hK hM hR
  replace hK : Knows a 23 [(2, Str []), (0, .slice A n c), (4, .int .i64 ((i : Nat) : Int)), (3, Str (joinTo ta i))] := hK
  replace hM : Mem w0 w [] := hM
  replace hR : i ≤ n := hR
  refine wp_seq ?_
  refine wp_seq ?_
  refine region_go (lst := [0, 1, 2, 3]) (by kernel_rfl) ?_
  refine stepM hK 5 4 (by kernel_rfl) (.inl rfl) rfl fun a hK => ?_
  refine stepM hK 6 0 (by kernel_rfl) (.inl rfl) rfl fun a hK => ?_
  refine stepP hK 7 (.int .i64 ((n : Nat) : Int)) (by kernel_rfl) (by kernel_rfl) fun a hK => ?_
  by_cases h1 : (((i : Nat) : Int) : Int) < ((n : Nat) : Int)
  · refine stepP hK 8 (.bool true) (by kernel_rfl) (okBool (b := (decide ((((i : Nat) : Int) : Int) < ((n : Nat) : Int)))) (by kernel_rfl) (decide_eq_true h1)) fun a hK => ?_
    refine region_done hK [(8, .bool true), (2, Str []), (0, .slice A n c), (4, .int .i64 ((i : Nat) : Int)), (3, Str (joinTo ta i))] ⟨rfl, rfl, rfl, rfl, rfl, trivial⟩ fun a hK => ?_
    refine wp_cond_true (hK.get rfl) ?_
    refine wp_skip ?_
    refine wp_seq ?_
    refine wp_block ?_
    refine wp_seq ?_
    refine wp_seq ?_
    refine region_go (lst := [0, 1]) (by kernel_rfl) ?_
    refine stepM hK 11 4 (by kernel_rfl) (.inl rfl) rfl fun a hK => ?_
    by_cases h2 : (0 : Int) < ((i : Nat) : Int)
    · refine stepP hK 12 (.bool true) (by kernel_rfl) (okBool (b := (decide ((0 : Int) < ((i : Nat) : Int)))) (by kernel_rfl) (decide_eq_true h2)) fun a hK => ?_
      refine region_done hK [(12, .bool true), (8, .bool true), (2, Str []), (0, .slice A n c), (4, .int .i64 ((i : Nat) : Int)), (3, Str (joinTo ta i))] ⟨rfl, rfl, rfl, rfl, rfl, rfl, trivial⟩ fun a hK => ?_
      refine wp_cond_true (hK.get rfl) ?_
      refine region_go (lst := [0, 1, 2]) (by kernel_rfl) ?_
      refine stepM hK 13 3 (by kernel_rfl) (.inl rfl) rfl fun a hK => ?_
      refine stepP hK 14 (Str ((joinTo ta i) ++ [32])) (by kernel_rfl) (run_catS rfl rfl rfl (by have := joinTo_le ta i; first | omega | (simp only [List.length_cons, List.length_nil]; omega))) fun a hK => ?_
      refine stepM hK 3 14 (by kernel_rfl) (.inr rfl) rfl fun a hK => ?_
      refine region_done hK [(3, Str ((joinTo ta i) ++ [32])), (12, .bool true), (8, .bool true), (2, Str []), (0, .slice A n c), (4, .int .i64 ((i : Nat) : Int))] ⟨rfl, rfl, rfl, rfl, rfl, rfl, trivial⟩ fun a hK => ?_
      refine region_go (lst := [0, 1, 2, 3, 4, 5, 6, 7]) (by kernel_rfl) ?_
      refine stepM hK 15 3 (by kernel_rfl) (.inl rfl) rfl fun a hK => ?_
      refine stepM hK 16 0 (by kernel_rfl) (.inl rfl) rfl fun a hK => ?_
      refine stepM hK 17 4 (by kernel_rfl) (.inl rfl) rfl fun a hK => ?_
      obtain ⟨t3, ht3⟩ : ∃ t, ta[(i : Nat)]? = some t := ⟨_, List.getElem?_eq_getElem (by omega)⟩
      obtain ⟨at3, At3, ct3⟩ := ha _ _ ht3
      refine stepP hK 18 (.pointer (some (at3.add (i * 4)))) (by kernel_rfl) (run_ixA (k := i) (s := 4) rfl rfl At3 rfl Tryd.underlying29 (by kernel_rfl) (by omega)) fun a hK => ?_
      refine stepP hK 19 (.pointer (some ((at3.add (i * 4)).add 1))) (by kernel_rfl) (by kernel_rfl) fun a hK => ?_
      refine stepLoad hK 20 (Str t3.2.1) (by kernel_rfl) rfl rfl (((ct3.on hM.below)).addA 1 1 (by decide)) (by kernel_rfl) fun a hK => ?_
      refine stepP hK 21 (Str (((joinTo ta i) ++ [32]) ++ t3.2.1)) (by kernel_rfl) (run_catS rfl rfl rfl (by have := joinTo_le ta i; have := text_le ht3; first | omega | (simp only [List.length_append, List.length_cons, List.length_nil]; omega))) fun a hK => ?_
      refine stepM hK 3 21 (by kernel_rfl) (.inr rfl) rfl fun a hK => ?_
      refine region_done hK [(3, Str (((joinTo ta i) ++ [32]) ++ t3.2.1)), (12, .bool true), (8, .bool true), (2, Str []), (0, .slice A n c), (4, .int .i64 ((i : Nat) : Int))] ⟨rfl, rfl, rfl, rfl, rfl, rfl, trivial⟩ fun a hK => ?_
      refine region_go (lst := [0, 1, 2]) (by kernel_rfl) ?_
      refine stepM hK 9 4 (by kernel_rfl) (.inl rfl) rfl fun a hK => ?_
      refine stepP hK 10 (.int .i64 (((i + 1) : Nat) : Int)) (by kernel_rfl) (run_addN (i := i) (j := 1) rfl rfl rfl (by omega)) fun a hK => ?_
      refine stepM hK 4 10 (by kernel_rfl) (.inr rfl) rfl fun a hK => ?_
      refine region_done hK [(4, .int .i64 (((i + 1) : Nat) : Int)), (3, Str (((joinTo ta i) ++ [32]) ++ t3.2.1)), (12, .bool true), (8, .bool true), (2, Str []), (0, .slice A n c)] ⟨rfl, rfl, rfl, rfl, rfl, rfl, trivial⟩ fun a hK => ?_
      rw [← joinTo_succ ht3 (by omega)] at hK
      have hRn : (i + 1) ≤ n := by omega
      have hmn : n - (i + 1) < n - i := by omega
      exact ⟨i + 1, hK.sub ⟨rfl, rfl, rfl, rfl, trivial⟩, hM, hRn, hmn⟩
    · refine stepP hK 12 (.bool false) (by kernel_rfl) (okBool (b := (decide ((0 : Int) < ((i : Nat) : Int)))) (by kernel_rfl) (decide_eq_false h2)) fun a hK => ?_
      refine region_done hK [(12, .bool false), (8, .bool true), (2, Str []), (0, .slice A n c), (4, .int .i64 ((i : Nat) : Int)), (3, Str (joinTo ta i))] ⟨rfl, rfl, rfl, rfl, rfl, rfl, trivial⟩ fun a hK => ?_
      refine wp_cond_false (hK.get rfl) ?_
      refine wp_skip ?_
      refine region_go (lst := [0, 1, 2, 3, 4, 5, 6, 7]) (by kernel_rfl) ?_
      refine stepM hK 15 3 (by kernel_rfl) (.inl rfl) rfl fun a hK => ?_
      refine stepM hK 16 0 (by kernel_rfl) (.inl rfl) rfl fun a hK => ?_
      refine stepM hK 17 4 (by kernel_rfl) (.inl rfl) rfl fun a hK => ?_
      obtain ⟨t4, ht4⟩ : ∃ t, ta[(i : Nat)]? = some t := ⟨_, List.getElem?_eq_getElem (by omega)⟩
      obtain ⟨at4, At4, ct4⟩ := ha _ _ ht4
      refine stepP hK 18 (.pointer (some (at4.add (i * 4)))) (by kernel_rfl) (run_ixA (k := i) (s := 4) rfl rfl At4 rfl Tryd.underlying29 (by kernel_rfl) (by omega)) fun a hK => ?_
      refine stepP hK 19 (.pointer (some ((at4.add (i * 4)).add 1))) (by kernel_rfl) (by kernel_rfl) fun a hK => ?_
      refine stepLoad hK 20 (Str t4.2.1) (by kernel_rfl) rfl rfl (((ct4.on hM.below)).addA 1 1 (by decide)) (by kernel_rfl) fun a hK => ?_
      refine stepP hK 21 (Str ((joinTo ta i) ++ t4.2.1)) (by kernel_rfl) (run_catS rfl rfl rfl (by have := joinTo_le ta i; have := text_le ht4; first | omega | (simp only [List.length_append, List.length_cons, List.length_nil]; omega))) fun a hK => ?_
      refine stepM hK 3 21 (by kernel_rfl) (.inr rfl) rfl fun a hK => ?_
      refine region_done hK [(3, Str ((joinTo ta i) ++ t4.2.1)), (12, .bool false), (8, .bool true), (2, Str []), (0, .slice A n c), (4, .int .i64 ((i : Nat) : Int))] ⟨rfl, rfl, rfl, rfl, rfl, rfl, trivial⟩ fun a hK => ?_
      refine region_go (lst := [0, 1, 2]) (by kernel_rfl) ?_
      refine stepM hK 9 4 (by kernel_rfl) (.inl rfl) rfl fun a hK => ?_
      refine stepP hK 10 (.int .i64 (((i + 1) : Nat) : Int)) (by kernel_rfl) (run_addN (i := i) (j := 1) rfl rfl rfl (by omega)) fun a hK => ?_
      refine stepM hK 4 10 (by kernel_rfl) (.inr rfl) rfl fun a hK => ?_
      refine region_done hK [(4, .int .i64 (((i + 1) : Nat) : Int)), (3, Str ((joinTo ta i) ++ t4.2.1)), (12, .bool false), (8, .bool true), (2, Str []), (0, .slice A n c)] ⟨rfl, rfl, rfl, rfl, rfl, rfl, trivial⟩ fun a hK => ?_
      rw [← joinTo_first (by omega) ht4] at hK
      have hRn : (i + 1) ≤ n := by omega
      have hmn : n - (i + 1) < n - i := by omega
      exact ⟨i + 1, hK.sub ⟨rfl, rfl, rfl, rfl, trivial⟩, hM, hRn, hmn⟩
  · refine stepP hK 8 (.bool false) (by kernel_rfl) (okBool (b := (decide ((((i : Nat) : Int) : Int) < ((n : Nat) : Int)))) (by kernel_rfl) (decide_eq_false h1)) fun a hK => ?_
    refine region_done hK [(8, .bool false), (2, Str []), (0, .slice A n c), (4, .int .i64 ((i : Nat) : Int)), (3, Str (joinTo ta i))] ⟨rfl, rfl, rfl, rfl, rfl, trivial⟩ fun a hK => ?_
    refine wp_cond_false (hK.get rfl) ?_
    refine wp_exit (exit_then (exit_then (exit_here 0 ?_)))
    refine wp_seq ?_
    refine region_go (lst := [0, 1]) (by kernel_rfl) ?_
    refine stepM hK 22 3 (by kernel_rfl) (.inl rfl) rfl fun a hK => ?_
    refine stepM hK 2 22 (by kernel_rfl) (.inr rfl) rfl fun a hK => ?_
    refine region_done hK [(2, Str (joinTo ta i)), (8, .bool false), (0, .slice A n c), (4, .int .i64 ((i : Nat) : Int)), (3, Str (joinTo ta i))] ⟨rfl, rfl, rfl, rfl, rfl, trivial⟩ fun a hK => ?_
    refine wp_ret ?_
    exact ret_t hK rfl (u := (Str (joinTo ta i))) rfl (⟨by rw [show i = n by omega, hn, joinTo_all], hM.below⟩)
theorem en_cantileverref02_Join : Enters Tryd.prog 18 := enters_of Tryd.func18 (by kernel_rfl) rfl
theorem lex_Join {v : Value} {ta : List Tk4} (w0 : World) (hbig : ta.length ≤ 100000000) (htot : (joinT (ta.map (·.2.1))).length ≤ 10000000) (ha : SliceAt w0 v ta) : Calls Tryd.prog 17 #[v] w0 (Ret w0 (Str (joinT (ta.map (·.2.1))))) := by
  obtain ⟨A, n, c, rfl, hn, ha⟩ := ha
  exact lex_Join_ A n c ta w0 hn (by omega) htot ha
theorem ref_Join {v : Value} {ta : List Tk4} (w0 : World) (hbig : ta.length ≤ 100000000) (htot : (joinT (ta.map (·.2.1))).length ≤ 10000000) (ha : SliceAt w0 v ta) : Calls Tryd.prog 18 #[v] w0 (Ret w0 (Str (joinT (ta.map (·.2.1))))) := by
  obtain ⟨A, n, c, rfl, hn, ha⟩ := ha
  exact ref_Join_ A n c ta w0 hn (by omega) htot ha
end Go.Proofs.YtbcfggdifljacaaDoor
