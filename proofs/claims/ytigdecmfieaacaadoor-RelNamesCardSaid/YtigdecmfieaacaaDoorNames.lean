/-
  The statement RelNames answers true: the chapter's examples come out as it tells.
-/
import Derived.Test.YtigdecmfieaacaaDoorSp3
namespace Go.Proofs.YtigdecmfieaacaaDoor
open Go Go.RowKit

set_option maxRecDepth 100000 in
set_option maxHeartbeats 4000000 in
theorem names_yes (w : World) (hT : Tab w) : Calls Tryd.prog 3 #[] w (Ret w (.bool true)) := by
  have HT := Lib.hid hT
  clear hT
  have h6 : (fun r : PR => Value.bool (Pacyclic r)) (Pof 2 [(0, 1), (1, 0)]) = (.bool false) := by kernel_rfl
  have h11 : (fun r : PR => Value.bool (Pacyclic r)) (Pself 1) = (.bool false) := by kernel_rfl
  have h16 : (fun r : PR => Value.bool (Pacyclic r)) (Pnone 0) = (.bool true) := by kernel_rfl
  have hs30 : PkitRel (Pthen [(Pof 3 [(0, 1)]), (Pof 3 [(1, 2)])]) (Pof 3 [(0, 2)]) = true := by kernel_rfl
  have h34 : (fun r : PR => Value.int .i64 (chk r.n r.rows)) (PR.mk 1 []) = (.int .i64 2) := by kernel_rfl
  have hs40 : PkitRel (Pnone 65) PR.zero = true := by kernel_rfl
  go_enter Tryd.func3, Tryd.ntmps3
  refine wp_seq ?_
  refine region_ts_seq (n := 1) [Sp.val (.bool false)] w (by kernel_rfl) (by kernel_rfl) (by kernel_rfl) (by kernel_rfl) ?steps ?fin
  case steps =>
    refine ⟨trivial, ?s0⟩
    case s0 =>
      intro o a w L ho hL haft st
      obtain rfl := Option.some.inj ho
      exact pay_assign st (want_none rfl) rfl (show Sp.holds (Sp.val (.bool false)) _ _ _ from rfl) rfl rfl
  case fin =>
    intro L0 a1 w1 hL0 st0
    have HT1 := Lib.hid (HT.out.on st0.g)
    refine wp_seq ?_
    refine region_ts_seq (n := 43) [Sp.val (.bool true), Sp.val (.bool true), Sp.val (.agg #[.int .i64 0, .int .i64 1]), Sp.val (.agg #[.int .i64 1, .int .i64 0]), Sp.prsl [(0, 1), (1, 0)], Sp.rel (Pof 2 [(0, 1), (1, 0)]), Sp.val (.bool false), Sp.val (.bool true), Sp.val (.bool true), Sp.val (.bool true), Sp.rel (Pself 1), Sp.val (.bool false), Sp.val (.bool true), Sp.val (.bool true), Sp.val (.bool true), Sp.rel (Pnone 0), Sp.val (.bool true), Sp.val (.bool true), Sp.val (.bool true), Sp.val (.agg #[.int .i64 0, .int .i64 1]), Sp.prsl [(0, 1)], Sp.rel (Pof 3 [(0, 1)]), Sp.val (.agg #[.int .i64 1, .int .i64 2]), Sp.prsl [(1, 2)], Sp.rel (Pof 3 [(1, 2)]), Sp.rels [(Pof 3 [(0, 1)]), (Pof 3 [(1, 2)])], Sp.rel (Pthen [(Pof 3 [(0, 1)]), (Pof 3 [(1, 2)])]), Sp.val (.agg #[.int .i64 0, .int .i64 2]), Sp.prsl [(0, 2)], Sp.rel (Pof 3 [(0, 2)]), Sp.val (.bool true), Sp.val (.bool true), Sp.val (.bool true), Sp.rel (PR.mk 1 []), Sp.val (.int .i64 2), Sp.val (.bool true), Sp.val (.bool true), Sp.val (.bool true), Sp.rel (Pnone 65), Sp.rel PR.zero, Sp.val (.bool true), Sp.val (.bool true), Sp.val (.bool true)] w1 (by rw [st0.size]; kernel_rfl) (by kernel_rfl) (by kernel_rfl) (by kernel_rfl) ?steps ?fin
    case steps =>
      refine ⟨⟨⟨⟨⟨⟨⟨⟨⟨⟨⟨⟨⟨⟨⟨⟨⟨⟨⟨⟨⟨⟨⟨⟨⟨⟨⟨⟨⟨⟨⟨⟨⟨⟨⟨⟨⟨⟨⟨⟨⟨⟨⟨trivial, ?s0⟩, ?s1⟩, ?s2⟩, ?s3⟩, ?s4⟩, ?s5⟩, ?s6⟩, ?s7⟩, ?s8⟩, ?s9⟩, ?s10⟩, ?s11⟩, ?s12⟩, ?s13⟩, ?s14⟩, ?s15⟩, ?s16⟩, ?s17⟩, ?s18⟩, ?s19⟩, ?s20⟩, ?s21⟩, ?s22⟩, ?s23⟩, ?s24⟩, ?s25⟩, ?s26⟩, ?s27⟩, ?s28⟩, ?s29⟩, ?s30⟩, ?s31⟩, ?s32⟩, ?s33⟩, ?s34⟩, ?s35⟩, ?s36⟩, ?s37⟩, ?s38⟩, ?s39⟩, ?s40⟩, ?s41⟩, ?s42⟩
      case s0 =>
        intro o a w L ho hL haft st
        obtain rfl := Option.some.inj ho
        exact call_lives HT1.out st (want_none rfl) rfl rfl
      case s1 =>
        intro o a w L ho hL haft st
        obtain rfl := Option.some.inj ho
        exact pay_move st (want_none rfl) rfl (show Sp.holds (Sp.val (.bool true)) _ _ _ from (st.arg (j := 0) (aft_of haft (by kernel_rfl)) rfl rfl)) rfl rfl
      case s2 =>
        intro o a w L ho hL haft st
        obtain rfl := Option.some.inj ho
        exact pay_arr2 st (st.want haft rfl (by kernel_rfl) rfl) rfl rfl rfl rfl
      case s3 =>
        intro o a w L ho hL haft st
        obtain rfl := Option.some.inj ho
        exact pay_arr2 st (st.want haft rfl (by kernel_rfl) rfl) rfl rfl rfl rfl
      case s4 =>
        intro o a w L ho hL haft st
        obtain rfl := Option.some.inj ho
        exact pay_prs2 st (st.want haft rfl (by kernel_rfl) rfl) rfl (st.arg (j := 2) (aft_of haft (by kernel_rfl)) rfl rfl) (st.arg (j := 3) (aft_of haft (by kernel_rfl)) rfl rfl) rfl
      case s5 =>
        intro o a w L ho hL haft st
        obtain rfl := Option.some.inj ho
        exact call_Of C_Of en_Of st (st.want haft rfl (by kernel_rfl) rfl) rfl rfl (st.arg (j := 4) (aft_of haft (by kernel_rfl)) rfl rfl) (by simp) rfl rfl (short_of_ _ _)
      case s6 =>
        intro o a w L ho hL haft st
        obtain rfl := Option.some.inj ho
        exact call_RV C_Acyclic en_Acyclic HT1.out st (st.want haft rfl (by kernel_rfl) rfl) rfl (st.arg (j := 5) (aft_of haft (by kernel_rfl)) rfl rfl) rfl h6
      case s7 =>
        intro o a w L ho hL haft st
        obtain rfl := Option.some.inj ho
        exact pay_not st (st.want haft rfl (by kernel_rfl) rfl) rfl (st.arg (j := 6) (aft_of haft (by kernel_rfl)) rfl rfl) rfl
      case s8 =>
        intro o a w L ho hL haft st
        obtain rfl := Option.some.inj ho
        exact pay_pick st (want_none rfl) rfl (st.arg (j := 1) (aft_of haft (by kernel_rfl)) rfl rfl) (show Sp.holds (Sp.val (.bool true)) _ _ _ from (st.arg (j := 7) (aft_of haft (by kernel_rfl)) rfl rfl)) rfl rfl
      case s9 =>
        intro o a w L ho hL haft st
        obtain rfl := Option.some.inj ho
        exact pay_move st (want_none rfl) rfl (show Sp.holds (Sp.val (.bool true)) _ _ _ from (st.arg (j := 8) (aft_of haft (by kernel_rfl)) rfl rfl)) rfl rfl
      case s10 =>
        intro o a w L ho hL haft st
        obtain rfl := Option.some.inj ho
        exact call_IR C_Self en_Self st (st.want haft rfl (by kernel_rfl) rfl) rfl rfl rfl rfl (short_self _)
      case s11 =>
        intro o a w L ho hL haft st
        obtain rfl := Option.some.inj ho
        exact call_RV C_Acyclic en_Acyclic HT1.out st (st.want haft rfl (by kernel_rfl) rfl) rfl (st.arg (j := 10) (aft_of haft (by kernel_rfl)) rfl rfl) rfl h11
      case s12 =>
        intro o a w L ho hL haft st
        obtain rfl := Option.some.inj ho
        exact pay_not st (st.want haft rfl (by kernel_rfl) rfl) rfl (st.arg (j := 11) (aft_of haft (by kernel_rfl)) rfl rfl) rfl
      case s13 =>
        intro o a w L ho hL haft st
        obtain rfl := Option.some.inj ho
        exact pay_pick st (want_none rfl) rfl (st.arg (j := 9) (aft_of haft (by kernel_rfl)) rfl rfl) (show Sp.holds (Sp.val (.bool true)) _ _ _ from (st.arg (j := 12) (aft_of haft (by kernel_rfl)) rfl rfl)) rfl rfl
      case s14 =>
        intro o a w L ho hL haft st
        obtain rfl := Option.some.inj ho
        exact pay_move st (want_none rfl) rfl (show Sp.holds (Sp.val (.bool true)) _ _ _ from (st.arg (j := 13) (aft_of haft (by kernel_rfl)) rfl rfl)) rfl rfl
      case s15 =>
        intro o a w L ho hL haft st
        obtain rfl := Option.some.inj ho
        exact call_IR C_None en_None st (st.want haft rfl (by kernel_rfl) rfl) rfl rfl rfl rfl (short_none _)
      case s16 =>
        intro o a w L ho hL haft st
        obtain rfl := Option.some.inj ho
        exact call_RV C_Acyclic en_Acyclic HT1.out st (st.want haft rfl (by kernel_rfl) rfl) rfl (st.arg (j := 15) (aft_of haft (by kernel_rfl)) rfl rfl) rfl h16
      case s17 =>
        intro o a w L ho hL haft st
        obtain rfl := Option.some.inj ho
        exact pay_pick st (want_none rfl) rfl (st.arg (j := 14) (aft_of haft (by kernel_rfl)) rfl rfl) (show Sp.holds (Sp.val (.bool true)) _ _ _ from (st.arg (j := 16) (aft_of haft (by kernel_rfl)) rfl rfl)) rfl rfl
      case s18 =>
        intro o a w L ho hL haft st
        obtain rfl := Option.some.inj ho
        exact pay_move st (want_none rfl) rfl (show Sp.holds (Sp.val (.bool true)) _ _ _ from (st.arg (j := 17) (aft_of haft (by kernel_rfl)) rfl rfl)) rfl rfl
      case s19 =>
        intro o a w L ho hL haft st
        obtain rfl := Option.some.inj ho
        exact pay_arr2 st (st.want haft rfl (by kernel_rfl) rfl) rfl rfl rfl rfl
      case s20 =>
        intro o a w L ho hL haft st
        obtain rfl := Option.some.inj ho
        exact pay_prs1 st (st.want haft rfl (by kernel_rfl) rfl) rfl (st.arg (j := 19) (aft_of haft (by kernel_rfl)) rfl rfl) rfl
      case s21 =>
        intro o a w L ho hL haft st
        obtain rfl := Option.some.inj ho
        exact call_Of C_Of en_Of st (st.want haft rfl (by kernel_rfl) rfl) rfl rfl (st.arg (j := 20) (aft_of haft (by kernel_rfl)) rfl rfl) (by simp) rfl rfl (short_of_ _ _)
      case s22 =>
        intro o a w L ho hL haft st
        obtain rfl := Option.some.inj ho
        exact pay_arr2 st (st.want haft rfl (by kernel_rfl) rfl) rfl rfl rfl rfl
      case s23 =>
        intro o a w L ho hL haft st
        obtain rfl := Option.some.inj ho
        exact pay_prs1 st (st.want haft rfl (by kernel_rfl) rfl) rfl (st.arg (j := 22) (aft_of haft (by kernel_rfl)) rfl rfl) rfl
      case s24 =>
        intro o a w L ho hL haft st
        obtain rfl := Option.some.inj ho
        exact call_Of C_Of en_Of st (st.want haft rfl (by kernel_rfl) rfl) rfl rfl (st.arg (j := 23) (aft_of haft (by kernel_rfl)) rfl rfl) (by simp) rfl rfl (short_of_ _ _)
      case s25 =>
        intro o a w L ho hL haft st
        obtain rfl := Option.some.inj ho
        exact pay_rels2 st (st.want haft rfl (by kernel_rfl) rfl) rfl (st.arg (j := 21) (aft_of haft (by kernel_rfl)) rfl rfl) (st.arg (j := 24) (aft_of haft (by kernel_rfl)) rfl rfl) rfl
      case s26 =>
        intro o a w L ho hL haft st
        obtain rfl := Option.some.inj ho
        exact call_LR C_Then en_Then HT1.out st (st.want haft rfl (by kernel_rfl) rfl) rfl (st.arg (j := 25) (aft_of haft (by kernel_rfl)) rfl rfl) (by simp) rfl rfl (short_then _)
      case s27 =>
        intro o a w L ho hL haft st
        obtain rfl := Option.some.inj ho
        exact pay_arr2 st (st.want haft rfl (by kernel_rfl) rfl) rfl rfl rfl rfl
      case s28 =>
        intro o a w L ho hL haft st
        obtain rfl := Option.some.inj ho
        exact pay_prs1 st (st.want haft rfl (by kernel_rfl) rfl) rfl (st.arg (j := 27) (aft_of haft (by kernel_rfl)) rfl rfl) rfl
      case s29 =>
        intro o a w L ho hL haft st
        obtain rfl := Option.some.inj ho
        exact call_Of C_Of en_Of st (st.want haft rfl (by kernel_rfl) rfl) rfl rfl (st.arg (j := 28) (aft_of haft (by kernel_rfl)) rfl rfl) (by simp) rfl rfl (short_of_ _ _)
      case s30 =>
        intro o a w L ho hL haft st
        obtain rfl := Option.some.inj ho
        exact call_RRB C_kitRel en_kitRel st (st.want haft rfl (by kernel_rfl) rfl) rfl (st.arg (j := 26) (aft_of haft (by kernel_rfl)) rfl rfl) (st.arg (j := 29) (aft_of haft (by kernel_rfl)) rfl rfl) rfl hs30
      case s31 =>
        intro o a w L ho hL haft st
        obtain rfl := Option.some.inj ho
        exact pay_pick st (want_none rfl) rfl (st.arg (j := 18) (aft_of haft (by kernel_rfl)) rfl rfl) (show Sp.holds (Sp.val (.bool true)) _ _ _ from (st.arg (j := 30) (aft_of haft (by kernel_rfl)) rfl rfl)) rfl rfl
      case s32 =>
        intro o a w L ho hL haft st
        obtain rfl := Option.some.inj ho
        exact pay_move st (want_none rfl) rfl (show Sp.holds (Sp.val (.bool true)) _ _ _ from (st.arg (j := 31) (aft_of haft (by kernel_rfl)) rfl rfl)) rfl rfl
      case s33 =>
        intro o a w L ho hL haft st
        obtain rfl := Option.some.inj ho
        exact pay_rel1 st (st.want haft rfl (by kernel_rfl) rfl) rfl rfl rfl
      case s34 =>
        intro o a w L ho hL haft st
        obtain rfl := Option.some.inj ho
        exact call_RV C_Check en_Check HT1.out st (st.want haft rfl (by kernel_rfl) rfl) rfl (st.arg (j := 33) (aft_of haft (by kernel_rfl)) rfl rfl) rfl h34
      case s35 =>
        intro o a w L ho hL haft st
        obtain rfl := Option.some.inj ho
        exact pay_run st (st.want haft rfl (by kernel_rfl) rfl) (run_eqE rfl (st.arg (j := 34) (aft_of haft (by kernel_rfl)) rfl rfl) rfl) rfl
      case s36 =>
        intro o a w L ho hL haft st
        obtain rfl := Option.some.inj ho
        exact pay_pick st (want_none rfl) rfl (st.arg (j := 32) (aft_of haft (by kernel_rfl)) rfl rfl) (show Sp.holds (Sp.val (.bool true)) _ _ _ from (st.arg (j := 35) (aft_of haft (by kernel_rfl)) rfl rfl)) rfl rfl
      case s37 =>
        intro o a w L ho hL haft st
        obtain rfl := Option.some.inj ho
        exact pay_move st (want_none rfl) rfl (show Sp.holds (Sp.val (.bool true)) _ _ _ from (st.arg (j := 36) (aft_of haft (by kernel_rfl)) rfl rfl)) rfl rfl
      case s38 =>
        intro o a w L ho hL haft st
        obtain rfl := Option.some.inj ho
        exact call_IR C_None en_None st (st.want haft rfl (by kernel_rfl) rfl) rfl rfl rfl rfl (short_none _)
      case s39 =>
        intro o a w L ho hL haft st
        obtain rfl := Option.some.inj ho
        exact pay_rel0 st (st.want haft rfl (by kernel_rfl) rfl) rfl rfl
      case s40 =>
        intro o a w L ho hL haft st
        obtain rfl := Option.some.inj ho
        exact call_RRB C_kitRel en_kitRel st (st.want haft rfl (by kernel_rfl) rfl) rfl (st.arg (j := 38) (aft_of haft (by kernel_rfl)) rfl rfl) (st.arg (j := 39) (aft_of haft (by kernel_rfl)) rfl rfl) rfl hs40
      case s41 =>
        intro o a w L ho hL haft st
        obtain rfl := Option.some.inj ho
        exact pay_pick st (want_none rfl) rfl (st.arg (j := 37) (aft_of haft (by kernel_rfl)) rfl rfl) (show Sp.holds (Sp.val (.bool true)) _ _ _ from (st.arg (j := 40) (aft_of haft (by kernel_rfl)) rfl rfl)) rfl rfl
      case s42 =>
        intro o a w L ho hL haft st
        obtain rfl := Option.some.inj ho
        exact pay_assign st (want_none rfl) rfl (show Sp.holds (Sp.val (.bool true)) _ _ _ from (st.arg (j := 41) (aft_of haft (by kernel_rfl)) rfl rfl)) rfl rfl
    case fin =>
      intro L2 a2 w2 hL2 st2
      refine wp_ret ?_
      exact post_slot rfl (by rw [st2.defers, st0.defers]) (get_of_bool (st2.arg (j := 42) (hL2 42 (by omega)) rfl rfl)) (Ret.b rfl (Below.next st0.g st2.g))
end Go.Proofs.YtigdecmfieaacaaDoor
