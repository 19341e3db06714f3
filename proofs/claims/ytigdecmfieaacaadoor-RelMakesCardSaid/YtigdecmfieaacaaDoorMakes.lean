/-
  The statement RelMakes answers true: relations are made, and asked, as the document says.
-/
import Derived.Test.YtigdecmfieaacaaDoorSp4
namespace Go.Proofs.YtigdecmfieaacaaDoor
open Go Go.RowKit

theorem kit_self (p : PR) : PkitRel p p = true := by simp [PkitRel]
set_option maxRecDepth 100000 in
set_option maxHeartbeats 4000000 in
theorem makes_yes (n : Int) (A : Option Addr) (cap : Nat) (l : List (Int × Int)) (r : RA) (i j : Int) (w : World) (hT : Tab w) (hr : Reads w w.heap.size 2 A l.length (prs l)) (hg : r.good w) (hsr : r.rows.length ≤ 9223372036854775807) :
    Calls Tryd.prog 4 #[.int .i64 n, .slice A l.length cap, r.val, .int .i64 i, .int .i64 j] w (Ret w (.bool true)) := by
  have HT := Lib.hid hT
  have HR := Lib.hid hr
  have HG := Lib.hid hg
  have HS := Lib.hid hsr
  clear hT hr hg hsr
  unfold RA.val
  by_cases hl : l.length ≤ 5000
  · have HLL := Lib.hid hl
    have hl2 : ¬ (5000 : Int) < l.length := by omega
    go_enter Tryd.func4, Tryd.ntmps4
    go_wp2_with (go_at_call 9; refine (lives_yes _ (HT.out.on (below_alloc _ _))).mono ?_; rintro e w1 ⟨rfl, hb1⟩; have hz := size_one hb1; have hBc := (below_alloc w _).next hb1; have x0 := (RowT.new w 26 [.int .i64 r.n, .slice r.A r.rows.length r.cap]).below hb1 (by simp))
    rename_i K hK
    have g1 := HG.out.on hBc
    have SR : Short r.pr := HS.out
    have hrl := HR.out.into hBc
    have HT1 := Lib.hid (HT.out.on hBc)
    have hs6 : PkitRel (Pof n l) (Pof n l) = true := kit_self _
    have hs12 : PkitRel (Pnone n) (Pnone n) = true := kit_self _
    have hs19 : PkitRel (Pself n) (Pself n) = true := kit_self _
    refine region_ts (n := 40) [Sp.val (.int .i64 n), Sp.prsl l, Sp.rel (Pof n l), Sp.val (.int .i64 n), Sp.prsl l, Sp.rel (Pof n l), Sp.val (.bool true), Sp.val (.bool true), Sp.val (.int .i64 n), Sp.rel (Pnone n), Sp.val (.int .i64 n), Sp.rel (Pnone n), Sp.val (.bool true), Sp.val (.bool true), Sp.val (.bool true), Sp.val (.int .i64 n), Sp.rel (Pself n), Sp.val (.int .i64 n), Sp.rel (Pself n), Sp.val (.bool true), Sp.val (.bool true), Sp.val (.bool true), Sp.rel r.pr, Sp.val (.int .i64 (chk r.pr.n r.pr.rows)), Sp.rel r.pr, Sp.val (.int .i64 (chk r.pr.n r.pr.rows)), Sp.val (.bool true), Sp.val (.bool true), Sp.val (.bool true), Sp.rel r.pr, Sp.val (.int .i64 i), Sp.val (.int .i64 j), Sp.val (.bool (Phas r.pr i j)), Sp.rel r.pr, Sp.val (.int .i64 i), Sp.val (.int .i64 j), Sp.val (.bool (Phas r.pr i j)), Sp.val (.bool true), Sp.val (.bool true), Sp.val (.bool true)] w1 (by kernel_rfl) (by kernel_rfl) (by kernel_rfl) (by kernel_rfl) (by kernel_rfl) (by kernel_rfl) ?steps ?fin
    case steps =>
      refine ⟨⟨⟨⟨⟨⟨⟨⟨⟨⟨⟨⟨⟨⟨⟨⟨⟨⟨⟨⟨⟨⟨⟨⟨⟨⟨⟨⟨⟨⟨⟨⟨⟨⟨⟨⟨⟨⟨⟨⟨trivial, ?s0⟩, ?s1⟩, ?s2⟩, ?s3⟩, ?s4⟩, ?s5⟩, ?s6⟩, ?s7⟩, ?s8⟩, ?s9⟩, ?s10⟩, ?s11⟩, ?s12⟩, ?s13⟩, ?s14⟩, ?s15⟩, ?s16⟩, ?s17⟩, ?s18⟩, ?s19⟩, ?s20⟩, ?s21⟩, ?s22⟩, ?s23⟩, ?s24⟩, ?s25⟩, ?s26⟩, ?s27⟩, ?s28⟩, ?s29⟩, ?s30⟩, ?s31⟩, ?s32⟩, ?s33⟩, ?s34⟩, ?s35⟩, ?s36⟩, ?s37⟩, ?s38⟩, ?s39⟩
      case s0 =>
        intro o a w L ho hL haft st
        obtain rfl := Option.some.inj ho
        exact pay_move st (want_none rfl) rfl (show Sp.holds (Sp.val (.int .i64 n)) _ _ _ from (st.out (by kernel_rfl) rfl)) rfl rfl
      case s1 =>
        intro o a w L ho hL haft st
        obtain rfl := Option.some.inj ho
        exact pay_move st (want_none rfl) rfl (show Sp.holds (Sp.prsl l) _ _ _ from (st.outP (by kernel_rfl) rfl hrl)) rfl rfl
      case s2 =>
        intro o a w L ho hL haft st
        obtain rfl := Option.some.inj ho
        exact call_Of C_Of en_Of st (want_none rfl) rfl (st.arg (j := 0) (aft_of haft (by kernel_rfl)) rfl rfl) (st.arg (j := 1) (aft_of haft (by kernel_rfl)) rfl rfl) HLL.out rfl rfl (short_of_ _ _)
      case s3 =>
        intro o a w L ho hL haft st
        obtain rfl := Option.some.inj ho
        exact pay_move st (want_none rfl) rfl (show Sp.holds (Sp.val (.int .i64 n)) _ _ _ from (st.out (by kernel_rfl) rfl)) rfl rfl
      case s4 =>
        intro o a w L ho hL haft st
        obtain rfl := Option.some.inj ho
        exact pay_move st (want_none rfl) rfl (show Sp.holds (Sp.prsl l) _ _ _ from (st.outP (by kernel_rfl) rfl hrl)) rfl rfl
      case s5 =>
        intro o a w L ho hL haft st
        obtain rfl := Option.some.inj ho
        exact call_Of C_rOf en_rOf st (want_none rfl) rfl (st.arg (j := 3) (aft_of haft (by kernel_rfl)) rfl rfl) (st.arg (j := 4) (aft_of haft (by kernel_rfl)) rfl rfl) HLL.out rfl rfl (short_of_ _ _)
      case s6 =>
        intro o a w L ho hL haft st
        obtain rfl := Option.some.inj ho
        exact call_RRB C_kitRel en_kitRel st (want_none rfl) rfl (st.arg (j := 2) (aft_of haft (by kernel_rfl)) rfl rfl) (st.arg (j := 5) (aft_of haft (by kernel_rfl)) rfl rfl) rfl hs6
      case s7 =>
        intro o a w L ho hL haft st
        obtain rfl := Option.some.inj ho
        exact pay_move st (want_none rfl) rfl (show Sp.holds (Sp.val (.bool true)) _ _ _ from (st.arg (j := 6) (aft_of haft (by kernel_rfl)) rfl rfl)) rfl rfl
      case s8 =>
        intro o a w L ho hL haft st
        obtain rfl := Option.some.inj ho
        exact pay_move st (st.want haft rfl (by kernel_rfl) rfl) rfl (show Sp.holds (Sp.val (.int .i64 n)) _ _ _ from (st.out (by kernel_rfl) rfl)) rfl rfl
      case s9 =>
        intro o a w L ho hL haft st
        obtain rfl := Option.some.inj ho
        exact call_IR C_None en_None st (st.want haft rfl (by kernel_rfl) rfl) rfl (st.arg (j := 8) (aft_of haft (by kernel_rfl)) rfl rfl) rfl rfl (short_none _)
      case s10 =>
        intro o a w L ho hL haft st
        obtain rfl := Option.some.inj ho
        exact pay_move st (st.want haft rfl (by kernel_rfl) rfl) rfl (show Sp.holds (Sp.val (.int .i64 n)) _ _ _ from (st.out (by kernel_rfl) rfl)) rfl rfl
      case s11 =>
        intro o a w L ho hL haft st
        obtain rfl := Option.some.inj ho
        exact call_IR C_rNone en_rNone st (st.want haft rfl (by kernel_rfl) rfl) rfl (st.arg (j := 10) (aft_of haft (by kernel_rfl)) rfl rfl) rfl rfl (short_none _)
      case s12 =>
        intro o a w L ho hL haft st
        obtain rfl := Option.some.inj ho
        exact call_RRB C_kitRel en_kitRel st (st.want haft rfl (by kernel_rfl) rfl) rfl (st.arg (j := 9) (aft_of haft (by kernel_rfl)) rfl rfl) (st.arg (j := 11) (aft_of haft (by kernel_rfl)) rfl rfl) rfl hs12
      case s13 =>
        intro o a w L ho hL haft st
        obtain rfl := Option.some.inj ho
        exact pay_pick st (want_none rfl) rfl (st.arg (j := 7) (aft_of haft (by kernel_rfl)) rfl rfl) (show Sp.holds (Sp.val (.bool true)) _ _ _ from (st.arg (j := 12) (aft_of haft (by kernel_rfl)) rfl rfl)) rfl rfl
      case s14 =>
        intro o a w L ho hL haft st
        obtain rfl := Option.some.inj ho
        exact pay_move st (want_none rfl) rfl (show Sp.holds (Sp.val (.bool true)) _ _ _ from (st.arg (j := 13) (aft_of haft (by kernel_rfl)) rfl rfl)) rfl rfl
      case s15 =>
        intro o a w L ho hL haft st
        obtain rfl := Option.some.inj ho
        exact pay_move st (st.want haft rfl (by kernel_rfl) rfl) rfl (show Sp.holds (Sp.val (.int .i64 n)) _ _ _ from (st.out (by kernel_rfl) rfl)) rfl rfl
      case s16 =>
        intro o a w L ho hL haft st
        obtain rfl := Option.some.inj ho
        exact call_IR C_Self en_Self st (st.want haft rfl (by kernel_rfl) rfl) rfl (st.arg (j := 15) (aft_of haft (by kernel_rfl)) rfl rfl) rfl rfl (short_self _)
      case s17 =>
        intro o a w L ho hL haft st
        obtain rfl := Option.some.inj ho
        exact pay_move st (st.want haft rfl (by kernel_rfl) rfl) rfl (show Sp.holds (Sp.val (.int .i64 n)) _ _ _ from (st.out (by kernel_rfl) rfl)) rfl rfl
      case s18 =>
        intro o a w L ho hL haft st
        obtain rfl := Option.some.inj ho
        exact call_IR C_rSelf en_rSelf st (st.want haft rfl (by kernel_rfl) rfl) rfl (st.arg (j := 17) (aft_of haft (by kernel_rfl)) rfl rfl) rfl rfl (short_self _)
      case s19 =>
        intro o a w L ho hL haft st
        obtain rfl := Option.some.inj ho
        exact call_RRB C_kitRel en_kitRel st (st.want haft rfl (by kernel_rfl) rfl) rfl (st.arg (j := 16) (aft_of haft (by kernel_rfl)) rfl rfl) (st.arg (j := 18) (aft_of haft (by kernel_rfl)) rfl rfl) rfl hs19
      case s20 =>
        intro o a w L ho hL haft st
        obtain rfl := Option.some.inj ho
        exact pay_pick st (want_none rfl) rfl (st.arg (j := 14) (aft_of haft (by kernel_rfl)) rfl rfl) (show Sp.holds (Sp.val (.bool true)) _ _ _ from (st.arg (j := 19) (aft_of haft (by kernel_rfl)) rfl rfl)) rfl rfl
      case s21 =>
        intro o a w L ho hL haft st
        obtain rfl := Option.some.inj ho
        exact pay_move st (want_none rfl) rfl (show Sp.holds (Sp.val (.bool true)) _ _ _ from (st.arg (j := 20) (aft_of haft (by kernel_rfl)) rfl rfl)) rfl rfl
      case s22 =>
        intro o a w L ho hL haft st
        obtain rfl := Option.some.inj ho
        exact pay_loadR st (st.want haft rfl (by kernel_rfl) rfl) rfl (st.out (by kernel_rfl) rfl) x0 g1 SR rfl
      case s23 =>
        intro o a w L ho hL haft st
        obtain rfl := Option.some.inj ho
        exact call_RV C_Check en_Check HT1.out st (st.want haft rfl (by kernel_rfl) rfl) rfl (st.arg (j := 22) (aft_of haft (by kernel_rfl)) rfl rfl) rfl rfl
      case s24 =>
        intro o a w L ho hL haft st
        obtain rfl := Option.some.inj ho
        exact pay_loadR st (st.want haft rfl (by kernel_rfl) rfl) rfl (st.out (by kernel_rfl) rfl) x0 g1 SR rfl
      case s25 =>
        intro o a w L ho hL haft st
        obtain rfl := Option.some.inj ho
        exact call_RV C_rCheck en_rCheck HT1.out st (st.want haft rfl (by kernel_rfl) rfl) rfl (st.arg (j := 24) (aft_of haft (by kernel_rfl)) rfl rfl) rfl rfl
      case s26 =>
        intro o a w L ho hL haft st
        obtain rfl := Option.some.inj ho
        exact pay_run st (st.want haft rfl (by kernel_rfl) rfl) ((run_eqE rfl (st.arg (j := 23) (aft_of haft (by kernel_rfl)) rfl rfl) (st.arg (j := 25) (aft_of haft (by kernel_rfl)) rfl rfl)).trans (by simp)) rfl
      case s27 =>
        intro o a w L ho hL haft st
        obtain rfl := Option.some.inj ho
        exact pay_pick st (want_none rfl) rfl (st.arg (j := 21) (aft_of haft (by kernel_rfl)) rfl rfl) (show Sp.holds (Sp.val (.bool true)) _ _ _ from (st.arg (j := 26) (aft_of haft (by kernel_rfl)) rfl rfl)) rfl rfl
      case s28 =>
        intro o a w L ho hL haft st
        obtain rfl := Option.some.inj ho
        exact pay_move st (want_none rfl) rfl (show Sp.holds (Sp.val (.bool true)) _ _ _ from (st.arg (j := 27) (aft_of haft (by kernel_rfl)) rfl rfl)) rfl rfl
      case s29 =>
        intro o a w L ho hL haft st
        obtain rfl := Option.some.inj ho
        exact pay_loadR st (st.want haft rfl (by kernel_rfl) rfl) rfl (st.out (by kernel_rfl) rfl) x0 g1 SR rfl
      case s30 =>
        intro o a w L ho hL haft st
        obtain rfl := Option.some.inj ho
        exact pay_move st (st.want haft rfl (by kernel_rfl) rfl) rfl (show Sp.holds (Sp.val (.int .i64 i)) _ _ _ from (st.out (by kernel_rfl) rfl)) rfl rfl
      case s31 =>
        intro o a w L ho hL haft st
        obtain rfl := Option.some.inj ho
        exact pay_move st (st.want haft rfl (by kernel_rfl) rfl) rfl (show Sp.holds (Sp.val (.int .i64 j)) _ _ _ from (st.out (by kernel_rfl) rfl)) rfl rfl
      case s32 =>
        intro o a w L ho hL haft st
        obtain rfl := Option.some.inj ho
        exact call_Has C_Has en_Has st (st.want haft rfl (by kernel_rfl) rfl) rfl (st.arg (j := 29) (aft_of haft (by kernel_rfl)) rfl rfl) (st.arg (j := 30) (aft_of haft (by kernel_rfl)) rfl rfl) (st.arg (j := 31) (aft_of haft (by kernel_rfl)) rfl rfl) rfl
      case s33 =>
        intro o a w L ho hL haft st
        obtain rfl := Option.some.inj ho
        exact pay_loadR st (st.want haft rfl (by kernel_rfl) rfl) rfl (st.out (by kernel_rfl) rfl) x0 g1 SR rfl
      case s34 =>
        intro o a w L ho hL haft st
        obtain rfl := Option.some.inj ho
        exact pay_move st (st.want haft rfl (by kernel_rfl) rfl) rfl (show Sp.holds (Sp.val (.int .i64 i)) _ _ _ from (st.out (by kernel_rfl) rfl)) rfl rfl
      case s35 =>
        intro o a w L ho hL haft st
        obtain rfl := Option.some.inj ho
        exact pay_move st (st.want haft rfl (by kernel_rfl) rfl) rfl (show Sp.holds (Sp.val (.int .i64 j)) _ _ _ from (st.out (by kernel_rfl) rfl)) rfl rfl
      case s36 =>
        intro o a w L ho hL haft st
        obtain rfl := Option.some.inj ho
        exact call_Has C_rHas en_rHas st (st.want haft rfl (by kernel_rfl) rfl) rfl (st.arg (j := 33) (aft_of haft (by kernel_rfl)) rfl rfl) (st.arg (j := 34) (aft_of haft (by kernel_rfl)) rfl rfl) (st.arg (j := 35) (aft_of haft (by kernel_rfl)) rfl rfl) rfl
      case s37 =>
        intro o a w L ho hL haft st
        obtain rfl := Option.some.inj ho
        exact pay_run st (st.want haft rfl (by kernel_rfl) rfl) ((run_eqB rfl (st.arg (j := 32) (aft_of haft (by kernel_rfl)) rfl rfl) (st.arg (j := 36) (aft_of haft (by kernel_rfl)) rfl rfl)).trans (by simp)) rfl
      case s38 =>
        intro o a w L ho hL haft st
        obtain rfl := Option.some.inj ho
        exact pay_pick st (want_none rfl) rfl (st.arg (j := 28) (aft_of haft (by kernel_rfl)) rfl rfl) (show Sp.holds (Sp.val (.bool true)) _ _ _ from (st.arg (j := 37) (aft_of haft (by kernel_rfl)) rfl rfl)) rfl rfl
      case s39 =>
        intro o a w L ho hL haft st
        obtain rfl := Option.some.inj ho
        exact pay_assign st (want_none rfl) rfl (show Sp.holds (Sp.val (.bool true)) _ _ _ from (st.arg (j := 38) (aft_of haft (by kernel_rfl)) rfl rfl)) rfl rfl
    case fin =>
      intro L2 a2 w2 hL2 st2
      refine hK _ _ ?_
      refine wp_ret ?_
      exact post_slot rfl (by rw [st2.defers]) (get_of_bool (st2.arg (j := 39) (hL2 39 (by omega)) rfl rfl)) (Ret.b rfl (hBc.next st2.g))
  · have hl2 : (5000 : Int) < l.length := by omega
    go_enter Tryd.func4, Tryd.ntmps4
    go_wp2_with (go_at_call 9; refine (lives_yes _ (HT.out.on (below_alloc _ _))).mono ?_; rintro e w1 ⟨rfl, hb1⟩; have hz := size_one hb1; have hBc := (below_alloc w _).next hb1; have x0 := (RowT.new w 26 [.int .i64 r.n, .slice r.A r.rows.length r.cap]).below hb1 (by simp))
    go_ret
    exact Ret.b rfl hBc
end Go.Proofs.YtigdecmfieaacaaDoor
