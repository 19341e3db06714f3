/-
 The document's Word (layer 2).
-/
import Derived.Test.YtmfiiapmkidmkaaDoorOps
import Derived.Test.YtmfiiapmkidmkaaDoorGenC
namespace Go.Proofs.YtmfiiapmkidmkaaDoor
open Go Go.RowKit

def isLetter (c : UInt8) : Bool := (decide ((97 : Int) ≤ ((c.toNat : Nat) : Int)) && decide (((c.toNat : Nat) : Int) ≤ 122)) || (decide ((65 : Int) ≤ ((c.toNat : Nat) : Int)) && decide (((c.toNat : Nat) : Int) ≤ 90))
def isDigit (c : UInt8) : Bool := decide ((48 : Int) ≤ ((c.toNat : Nat) : Int)) && decide (((c.toNat : Nat) : Int) ≤ 57)
set_option maxRecDepth 100000 in
theorem ref_letter (c : UInt8) (w0 : World) : Calls Tryd.prog 85 #[.int .u8 ((c.toNat : Nat) : Int)] w0 (Ret w0 (.bool (isLetter c))) := by
 refine calls_of_wp Tryd.func85 rfl ?_
 obtain ⟨hz, e0⟩ := start_act1 17 ((.int .u8 ((c.toNat : Nat) : Int))) (by decide)
 have hd : ({ tmps := #[(.int .u8 ((c.toNat : Nat) : Int))] ++ Array.replicate (17 - 1) undef, defers := [] } : Act).defers = [] := rfl
 rw [show Tryd.f85.ntmps - (#[(.int .u8 ((c.toNat : Nat) : Int))] : Array Value).size = 17 - 1 from rfl]
 generalize ({ tmps := #[(.int .u8 ((c.toNat : Nat) : Int))] ++ Array.replicate (17 - 1) undef, defers := [] } : Act) = a0 at hz e0 hd ⊢
 have hB : Below w0.heap.size w0 w0 := Below.refl _ _
 have hS := hB.size
 refine wp_seq ?_
 refine seq_startL (l := [0]) (by kernel_rfl) ?_
 refine seq_assign 2 (v := (.bool false)) rfl rfl rfl rfl rfl ?_
 refine seq_nil ?_
 refine seq_out ((KeepM.refl 3 [2] a0).put (by decide)) fun a1 k1 tr => ?_
 have f2 := tr 2 (.bool false) (ev_same (by first | (rw [hz]; decide) | (simp only [size_put, hz]; decide)))
 clear tr
 replace e0 := k1.ev e0 (by decide)
 replace hz := k1.size.trans hz
 replace hd := k1.defers.trans hd
 have e2 := f2
 clear f2
 refine wp_seq ?_
 cases hc1_1 : (decide ((97 : Int) ≤ ((c.toNat : Nat) : Int)) : Bool) with
 | true =>
  cases hc1_4 : (decide ((((c.toNat : Nat) : Int) : Int) ≤ 122) : Bool) with
  | true =>
   have hlast : lastOk (regOps Tryd.f85 1) 15 = true := by kernel_rfl
   refine region_ws (n := 15) [some (.int .u8 ((c.toNat : Nat) : Int)), some (.bool true), some (.bool true), some (.int .u8 ((c.toNat : Nat) : Int)), some (.bool true), some (.bool true), some (.bool true), some undef, some undef, some undef, some undef, some undef, some undef, some (.bool true), some (.bool true)] 15 w0 w0 (by rw [hz]; kernel_rfl) (by kernel_rfl) (by kernel_rfl) (by kernel_rfl) ?_ fun L a2 w2 hL st => ?_
   ·refine ⟨⟨⟨⟨⟨⟨⟨⟨⟨⟨⟨⟨⟨⟨⟨trivial, ?_⟩, ?_⟩, ?_⟩, ?_⟩, ?_⟩, ?_⟩, ?_⟩, ?_⟩, ?_⟩, ?_⟩, ?_⟩, ?_⟩, ?_⟩, ?_⟩, ?_⟩
    ·intro oo aa ww LL hho hLL haft st; obtain rfl := Option.some.inj hho; exact payW_move st hlast hLL (by decide) (want_none rfl) rfl (st.outV (by kernel_rfl) e0) rfl
    ·intro oo aa ww LL hho hLL haft st; obtain rfl := Option.some.inj hho; exact payW st hlast hLL (by decide) (want_none rfl) ((run_ge8 rfl (st.argV (j := 0) (aft_of haft (by kernel_rfl)) rfl rfl) rfl).trans (okB (c := true) hc1_1)) rfl
    ·intro oo aa ww LL hho hLL haft st; obtain rfl := Option.some.inj hho; exact payW_move st hlast hLL (by decide) (want_none rfl) rfl (st.argV (j := 1) (aft_of haft (by kernel_rfl)) rfl rfl) rfl
    ·intro oo aa ww LL hho hLL haft st; obtain rfl := Option.some.inj hho; exact payW_move st hlast hLL (by decide) (st.wantV haft rfl (by kernel_rfl) rfl) rfl (st.outV (by kernel_rfl) e0) rfl
    ·intro oo aa ww LL hho hLL haft st; obtain rfl := Option.some.inj hho; exact payW st hlast hLL (by decide) (st.wantV haft rfl (by kernel_rfl) rfl) ((run_le8 rfl (st.argV (j := 3) (aft_of haft (by kernel_rfl)) rfl rfl) rfl).trans (okB (c := true) hc1_4)) rfl
    ·intro oo aa ww LL hho hLL haft st; obtain rfl := Option.some.inj hho; exact payW_pick st hlast hLL (by decide) (want_none rfl) rfl (st.argV (j := 2) (aft_of haft (by kernel_rfl)) rfl rfl) (st.argV (j := 4) (aft_of haft (by kernel_rfl)) rfl rfl) rfl
    ·intro oo aa ww LL hho hLL haft st; obtain rfl := Option.some.inj hho; exact payW_move st hlast hLL (by decide) (want_none rfl) rfl (st.argV (j := 5) (aft_of haft (by kernel_rfl)) rfl rfl) rfl
    ·intro oo aa ww LL hho hLL haft st; obtain rfl := Option.some.inj hho; exact st.skipW hlast hLL (by decide) haft rfl (by kernel_rfl) rfl (.inl rfl) rfl
    ·intro oo aa ww LL hho hLL haft st; obtain rfl := Option.some.inj hho; exact st.skipW hlast hLL (by decide) haft rfl (by kernel_rfl) rfl (.inl rfl) rfl
    ·intro oo aa ww LL hho hLL haft st; obtain rfl := Option.some.inj hho; exact st.skipW hlast hLL (by decide) haft rfl (by kernel_rfl) rfl (.inl rfl) rfl
    ·intro oo aa ww LL hho hLL haft st; obtain rfl := Option.some.inj hho; exact st.skipW hlast hLL (by decide) haft rfl (by kernel_rfl) rfl (.inr rfl) rfl
    ·intro oo aa ww LL hho hLL haft st; obtain rfl := Option.some.inj hho; exact st.skipW hlast hLL (by decide) haft rfl (by kernel_rfl) rfl (.inr rfl) rfl
    ·intro oo aa ww LL hho hLL haft st; obtain rfl := Option.some.inj hho; exact st.skipW hlast hLL (by decide) haft rfl (by kernel_rfl) rfl (.inl rfl) rfl
    ·intro oo aa ww LL hho hLL haft st; obtain rfl := Option.some.inj hho; exact payW_pick st hlast hLL (by decide) (want_none rfl) rfl (st.argV (j := 6) (aft_of haft (by kernel_rfl)) rfl rfl) rfl rfl
    ·intro oo aa ww LL hho hLL haft st; obtain rfl := Option.some.inj hho; exact payW st hlast hLL (by decide) (want_none rfl) (run_assignV rfl (st.argV (j := 13) (aft_of haft (by kernel_rfl)) rfl rfl)) rfl
   clear hlast
   rw [st.end1 (Nat.le_of_eq (by kernel_rfl))]
   have k2 : KeepM 3 [2] a1 a2 := st.keepM (by kernel_rfl)
   have e2 : a2.eval (.tmp 2) = (.bool true) := st.argV (j := 14) (hL 14 (by omega)) rfl rfl
   clear st hL L
   replace e0 := k2.ev e0 (by decide)
   replace hz := k2.size.trans hz
   replace hd := k2.defers.trans hd
   refine wp_ret ?_
   exact post_slot rfl hd (get_of_bool e2) (Ret.b (by unfold isLetter; rw [hc1_1, hc1_4]; try rfl) hB)
  | false =>
   cases hc1_8 : (decide ((65 : Int) ≤ ((c.toNat : Nat) : Int)) : Bool) with
   | true =>
    cases hc1_11 : (decide ((((c.toNat : Nat) : Int) : Int) ≤ 90) : Bool) with
    | true =>
     have hlast : lastOk (regOps Tryd.f85 1) 15 = true := by kernel_rfl
     refine region_ws (n := 15) [some (.int .u8 ((c.toNat : Nat) : Int)), some (.bool true), some (.bool true), some (.int .u8 ((c.toNat : Nat) : Int)), some (.bool false), some (.bool false), some (.bool false), some (.int .u8 ((c.toNat : Nat) : Int)), some (.bool true), some (.bool true), some (.int .u8 ((c.toNat : Nat) : Int)), some (.bool true), some (.bool true), some (.bool true), some (.bool true)] 15 w0 w0 (by rw [hz]; kernel_rfl) (by kernel_rfl) (by kernel_rfl) (by kernel_rfl) ?_ fun L a3 w3 hL st => ?_
     ·refine ⟨⟨⟨⟨⟨⟨⟨⟨⟨⟨⟨⟨⟨⟨⟨trivial, ?_⟩, ?_⟩, ?_⟩, ?_⟩, ?_⟩, ?_⟩, ?_⟩, ?_⟩, ?_⟩, ?_⟩, ?_⟩, ?_⟩, ?_⟩, ?_⟩, ?_⟩
      ·intro oo aa ww LL hho hLL haft st; obtain rfl := Option.some.inj hho; exact payW_move st hlast hLL (by decide) (want_none rfl) rfl (st.outV (by kernel_rfl) e0) rfl
      ·intro oo aa ww LL hho hLL haft st; obtain rfl := Option.some.inj hho; exact payW st hlast hLL (by decide) (want_none rfl) ((run_ge8 rfl (st.argV (j := 0) (aft_of haft (by kernel_rfl)) rfl rfl) rfl).trans (okB (c := true) hc1_1)) rfl
      ·intro oo aa ww LL hho hLL haft st; obtain rfl := Option.some.inj hho; exact payW_move st hlast hLL (by decide) (want_none rfl) rfl (st.argV (j := 1) (aft_of haft (by kernel_rfl)) rfl rfl) rfl
      ·intro oo aa ww LL hho hLL haft st; obtain rfl := Option.some.inj hho; exact payW_move st hlast hLL (by decide) (st.wantV haft rfl (by kernel_rfl) rfl) rfl (st.outV (by kernel_rfl) e0) rfl
      ·intro oo aa ww LL hho hLL haft st; obtain rfl := Option.some.inj hho; exact payW st hlast hLL (by decide) (st.wantV haft rfl (by kernel_rfl) rfl) ((run_le8 rfl (st.argV (j := 3) (aft_of haft (by kernel_rfl)) rfl rfl) rfl).trans (okB (c := false) hc1_4)) rfl
      ·intro oo aa ww LL hho hLL haft st; obtain rfl := Option.some.inj hho; exact payW_pick st hlast hLL (by decide) (want_none rfl) rfl (st.argV (j := 2) (aft_of haft (by kernel_rfl)) rfl rfl) (st.argV (j := 4) (aft_of haft (by kernel_rfl)) rfl rfl) rfl
      ·intro oo aa ww LL hho hLL haft st; obtain rfl := Option.some.inj hho; exact payW_move st hlast hLL (by decide) (want_none rfl) rfl (st.argV (j := 5) (aft_of haft (by kernel_rfl)) rfl rfl) rfl
      ·intro oo aa ww LL hho hLL haft st; obtain rfl := Option.some.inj hho; exact payW_move st hlast hLL (by decide) (st.wantV haft rfl (by kernel_rfl) rfl) rfl (st.outV (by kernel_rfl) e0) rfl
      ·intro oo aa ww LL hho hLL haft st; obtain rfl := Option.some.inj hho; exact payW st hlast hLL (by decide) (st.wantV haft rfl (by kernel_rfl) rfl) ((run_ge8 rfl (st.argV (j := 7) (aft_of haft (by kernel_rfl)) rfl rfl) rfl).trans (okB (c := true) hc1_8)) rfl
      ·intro oo aa ww LL hho hLL haft st; obtain rfl := Option.some.inj hho; exact payW_move st hlast hLL (by decide) (st.wantV haft rfl (by kernel_rfl) rfl) rfl (st.argV (j := 8) (aft_of haft (by kernel_rfl)) rfl rfl) rfl
      ·intro oo aa ww LL hho hLL haft st; obtain rfl := Option.some.inj hho; exact payW_move st hlast hLL (by decide) (st.wantV haft rfl (by kernel_rfl) rfl) rfl (st.outV (by kernel_rfl) e0) rfl
      ·intro oo aa ww LL hho hLL haft st; obtain rfl := Option.some.inj hho; exact payW st hlast hLL (by decide) (st.wantV haft rfl (by kernel_rfl) rfl) ((run_le8 rfl (st.argV (j := 10) (aft_of haft (by kernel_rfl)) rfl rfl) rfl).trans (okB (c := true) hc1_11)) rfl
      ·intro oo aa ww LL hho hLL haft st; obtain rfl := Option.some.inj hho; exact payW_pick st hlast hLL (by decide) (st.wantV haft rfl (by kernel_rfl) rfl) rfl (st.argV (j := 9) (aft_of haft (by kernel_rfl)) rfl rfl) (st.argV (j := 11) (aft_of haft (by kernel_rfl)) rfl rfl) rfl
      ·intro oo aa ww LL hho hLL haft st; obtain rfl := Option.some.inj hho; exact payW_pick st hlast hLL (by decide) (want_none rfl) rfl (st.argV (j := 6) (aft_of haft (by kernel_rfl)) rfl rfl) (st.argV (j := 12) (aft_of haft (by kernel_rfl)) rfl rfl) rfl
      ·intro oo aa ww LL hho hLL haft st; obtain rfl := Option.some.inj hho; exact payW st hlast hLL (by decide) (want_none rfl) (run_assignV rfl (st.argV (j := 13) (aft_of haft (by kernel_rfl)) rfl rfl)) rfl
     clear hlast
     rw [st.end1 (Nat.le_of_eq (by kernel_rfl))]
     have k3 : KeepM 3 [2] a1 a3 := st.keepM (by kernel_rfl)
     have e2 : a3.eval (.tmp 2) = (.bool true) := st.argV (j := 14) (hL 14 (by omega)) rfl rfl
     clear st hL L
     replace e0 := k3.ev e0 (by decide)
     replace hz := k3.size.trans hz
     replace hd := k3.defers.trans hd
     refine wp_ret ?_
     exact post_slot rfl hd (get_of_bool e2) (Ret.b (by unfold isLetter; rw [hc1_1, hc1_4, hc1_8, hc1_11]; try rfl) hB)
    | false =>
     have hlast : lastOk (regOps Tryd.f85 1) 15 = true := by kernel_rfl
     refine region_ws (n := 15) [some (.int .u8 ((c.toNat : Nat) : Int)), some (.bool true), some (.bool true), some (.int .u8 ((c.toNat : Nat) : Int)), some (.bool false), some (.bool false), some (.bool false), some (.int .u8 ((c.toNat : Nat) : Int)), some (.bool true), some (.bool true), some (.int .u8 ((c.toNat : Nat) : Int)), some (.bool false), some (.bool false), some (.bool false), some (.bool false)] 15 w0 w0 (by rw [hz]; kernel_rfl) (by kernel_rfl) (by kernel_rfl) (by kernel_rfl) ?_ fun L a4 w4 hL st => ?_
     ·refine ⟨⟨⟨⟨⟨⟨⟨⟨⟨⟨⟨⟨⟨⟨⟨trivial, ?_⟩, ?_⟩, ?_⟩, ?_⟩, ?_⟩, ?_⟩, ?_⟩, ?_⟩, ?_⟩, ?_⟩, ?_⟩, ?_⟩, ?_⟩, ?_⟩, ?_⟩
      ·intro oo aa ww LL hho hLL haft st; obtain rfl := Option.some.inj hho; exact payW_move st hlast hLL (by decide) (want_none rfl) rfl (st.outV (by kernel_rfl) e0) rfl
      ·intro oo aa ww LL hho hLL haft st; obtain rfl := Option.some.inj hho; exact payW st hlast hLL (by decide) (want_none rfl) ((run_ge8 rfl (st.argV (j := 0) (aft_of haft (by kernel_rfl)) rfl rfl) rfl).trans (okB (c := true) hc1_1)) rfl
      ·intro oo aa ww LL hho hLL haft st; obtain rfl := Option.some.inj hho; exact payW_move st hlast hLL (by decide) (want_none rfl) rfl (st.argV (j := 1) (aft_of haft (by kernel_rfl)) rfl rfl) rfl
      ·intro oo aa ww LL hho hLL haft st; obtain rfl := Option.some.inj hho; exact payW_move st hlast hLL (by decide) (st.wantV haft rfl (by kernel_rfl) rfl) rfl (st.outV (by kernel_rfl) e0) rfl
      ·intro oo aa ww LL hho hLL haft st; obtain rfl := Option.some.inj hho; exact payW st hlast hLL (by decide) (st.wantV haft rfl (by kernel_rfl) rfl) ((run_le8 rfl (st.argV (j := 3) (aft_of haft (by kernel_rfl)) rfl rfl) rfl).trans (okB (c := false) hc1_4)) rfl
      ·intro oo aa ww LL hho hLL haft st; obtain rfl := Option.some.inj hho; exact payW_pick st hlast hLL (by decide) (want_none rfl) rfl (st.argV (j := 2) (aft_of haft (by kernel_rfl)) rfl rfl) (st.argV (j := 4) (aft_of haft (by kernel_rfl)) rfl rfl) rfl
      ·intro oo aa ww LL hho hLL haft st; obtain rfl := Option.some.inj hho; exact payW_move st hlast hLL (by decide) (want_none rfl) rfl (st.argV (j := 5) (aft_of haft (by kernel_rfl)) rfl rfl) rfl
      ·intro oo aa ww LL hho hLL haft st; obtain rfl := Option.some.inj hho; exact payW_move st hlast hLL (by decide) (st.wantV haft rfl (by kernel_rfl) rfl) rfl (st.outV (by kernel_rfl) e0) rfl
      ·intro oo aa ww LL hho hLL haft st; obtain rfl := Option.some.inj hho; exact payW st hlast hLL (by decide) (st.wantV haft rfl (by kernel_rfl) rfl) ((run_ge8 rfl (st.argV (j := 7) (aft_of haft (by kernel_rfl)) rfl rfl) rfl).trans (okB (c := true) hc1_8)) rfl
      ·intro oo aa ww LL hho hLL haft st; obtain rfl := Option.some.inj hho; exact payW_move st hlast hLL (by decide) (st.wantV haft rfl (by kernel_rfl) rfl) rfl (st.argV (j := 8) (aft_of haft (by kernel_rfl)) rfl rfl) rfl
      ·intro oo aa ww LL hho hLL haft st; obtain rfl := Option.some.inj hho; exact payW_move st hlast hLL (by decide) (st.wantV haft rfl (by kernel_rfl) rfl) rfl (st.outV (by kernel_rfl) e0) rfl
      ·intro oo aa ww LL hho hLL haft st; obtain rfl := Option.some.inj hho; exact payW st hlast hLL (by decide) (st.wantV haft rfl (by kernel_rfl) rfl) ((run_le8 rfl (st.argV (j := 10) (aft_of haft (by kernel_rfl)) rfl rfl) rfl).trans (okB (c := false) hc1_11)) rfl
      ·intro oo aa ww LL hho hLL haft st; obtain rfl := Option.some.inj hho; exact payW_pick st hlast hLL (by decide) (st.wantV haft rfl (by kernel_rfl) rfl) rfl (st.argV (j := 9) (aft_of haft (by kernel_rfl)) rfl rfl) (st.argV (j := 11) (aft_of haft (by kernel_rfl)) rfl rfl) rfl
      ·intro oo aa ww LL hho hLL haft st; obtain rfl := Option.some.inj hho; exact payW_pick st hlast hLL (by decide) (want_none rfl) rfl (st.argV (j := 6) (aft_of haft (by kernel_rfl)) rfl rfl) (st.argV (j := 12) (aft_of haft (by kernel_rfl)) rfl rfl) rfl
      ·intro oo aa ww LL hho hLL haft st; obtain rfl := Option.some.inj hho; exact payW st hlast hLL (by decide) (want_none rfl) (run_assignV rfl (st.argV (j := 13) (aft_of haft (by kernel_rfl)) rfl rfl)) rfl
     clear hlast
     rw [st.end1 (Nat.le_of_eq (by kernel_rfl))]
     have k4 : KeepM 3 [2] a1 a4 := st.keepM (by kernel_rfl)
     have e2 : a4.eval (.tmp 2) = (.bool false) := st.argV (j := 14) (hL 14 (by omega)) rfl rfl
     clear st hL L
     replace e0 := k4.ev e0 (by decide)
     replace hz := k4.size.trans hz
     replace hd := k4.defers.trans hd
     refine wp_ret ?_
     exact post_slot rfl hd (get_of_bool e2) (Ret.b (by unfold isLetter; rw [hc1_1, hc1_4, hc1_8, hc1_11]; try rfl) hB)
   | false =>
    have hlast : lastOk (regOps Tryd.f85 1) 15 = true := by kernel_rfl
    refine region_ws (n := 15) [some (.int .u8 ((c.toNat : Nat) : Int)), some (.bool true), some (.bool true), some (.int .u8 ((c.toNat : Nat) : Int)), some (.bool false), some (.bool false), some (.bool false), some (.int .u8 ((c.toNat : Nat) : Int)), some (.bool false), some (.bool false), some undef, some undef, some (.bool false), some (.bool false), some (.bool false)] 15 w0 w0 (by rw [hz]; kernel_rfl) (by kernel_rfl) (by kernel_rfl) (by kernel_rfl) ?_ fun L a5 w5 hL st => ?_
    ·refine ⟨⟨⟨⟨⟨⟨⟨⟨⟨⟨⟨⟨⟨⟨⟨trivial, ?_⟩, ?_⟩, ?_⟩, ?_⟩, ?_⟩, ?_⟩, ?_⟩, ?_⟩, ?_⟩, ?_⟩, ?_⟩, ?_⟩, ?_⟩, ?_⟩, ?_⟩
     ·intro oo aa ww LL hho hLL haft st; obtain rfl := Option.some.inj hho; exact payW_move st hlast hLL (by decide) (want_none rfl) rfl (st.outV (by kernel_rfl) e0) rfl
     ·intro oo aa ww LL hho hLL haft st; obtain rfl := Option.some.inj hho; exact payW st hlast hLL (by decide) (want_none rfl) ((run_ge8 rfl (st.argV (j := 0) (aft_of haft (by kernel_rfl)) rfl rfl) rfl).trans (okB (c := true) hc1_1)) rfl
     ·intro oo aa ww LL hho hLL haft st; obtain rfl := Option.some.inj hho; exact payW_move st hlast hLL (by decide) (want_none rfl) rfl (st.argV (j := 1) (aft_of haft (by kernel_rfl)) rfl rfl) rfl
     ·intro oo aa ww LL hho hLL haft st; obtain rfl := Option.some.inj hho; exact payW_move st hlast hLL (by decide) (st.wantV haft rfl (by kernel_rfl) rfl) rfl (st.outV (by kernel_rfl) e0) rfl
     ·intro oo aa ww LL hho hLL haft st; obtain rfl := Option.some.inj hho; exact payW st hlast hLL (by decide) (st.wantV haft rfl (by kernel_rfl) rfl) ((run_le8 rfl (st.argV (j := 3) (aft_of haft (by kernel_rfl)) rfl rfl) rfl).trans (okB (c := false) hc1_4)) rfl
     ·intro oo aa ww LL hho hLL haft st; obtain rfl := Option.some.inj hho; exact payW_pick st hlast hLL (by decide) (want_none rfl) rfl (st.argV (j := 2) (aft_of haft (by kernel_rfl)) rfl rfl) (st.argV (j := 4) (aft_of haft (by kernel_rfl)) rfl rfl) rfl
     ·intro oo aa ww LL hho hLL haft st; obtain rfl := Option.some.inj hho; exact payW_move st hlast hLL (by decide) (want_none rfl) rfl (st.argV (j := 5) (aft_of haft (by kernel_rfl)) rfl rfl) rfl
     ·intro oo aa ww LL hho hLL haft st; obtain rfl := Option.some.inj hho; exact payW_move st hlast hLL (by decide) (st.wantV haft rfl (by kernel_rfl) rfl) rfl (st.outV (by kernel_rfl) e0) rfl
     ·intro oo aa ww LL hho hLL haft st; obtain rfl := Option.some.inj hho; exact payW st hlast hLL (by decide) (st.wantV haft rfl (by kernel_rfl) rfl) ((run_ge8 rfl (st.argV (j := 7) (aft_of haft (by kernel_rfl)) rfl rfl) rfl).trans (okB (c := false) hc1_8)) rfl
     ·intro oo aa ww LL hho hLL haft st; obtain rfl := Option.some.inj hho; exact payW_move st hlast hLL (by decide) (st.wantV haft rfl (by kernel_rfl) rfl) rfl (st.argV (j := 8) (aft_of haft (by kernel_rfl)) rfl rfl) rfl
     ·intro oo aa ww LL hho hLL haft st; obtain rfl := Option.some.inj hho; exact st.skipW hlast hLL (by decide) haft rfl (by kernel_rfl) rfl (.inl rfl) rfl
     ·intro oo aa ww LL hho hLL haft st; obtain rfl := Option.some.inj hho; exact st.skipW hlast hLL (by decide) haft rfl (by kernel_rfl) rfl (.inl rfl) rfl
     ·intro oo aa ww LL hho hLL haft st; obtain rfl := Option.some.inj hho; exact payW_pick st hlast hLL (by decide) (st.wantV haft rfl (by kernel_rfl) rfl) rfl (st.argV (j := 9) (aft_of haft (by kernel_rfl)) rfl rfl) rfl rfl
     ·intro oo aa ww LL hho hLL haft st; obtain rfl := Option.some.inj hho; exact payW_pick st hlast hLL (by decide) (want_none rfl) rfl (st.argV (j := 6) (aft_of haft (by kernel_rfl)) rfl rfl) (st.argV (j := 12) (aft_of haft (by kernel_rfl)) rfl rfl) rfl
     ·intro oo aa ww LL hho hLL haft st; obtain rfl := Option.some.inj hho; exact payW st hlast hLL (by decide) (want_none rfl) (run_assignV rfl (st.argV (j := 13) (aft_of haft (by kernel_rfl)) rfl rfl)) rfl
    clear hlast
    rw [st.end1 (Nat.le_of_eq (by kernel_rfl))]
    have k5 : KeepM 3 [2] a1 a5 := st.keepM (by kernel_rfl)
    have e2 : a5.eval (.tmp 2) = (.bool false) := st.argV (j := 14) (hL 14 (by omega)) rfl rfl
    clear st hL L
    replace e0 := k5.ev e0 (by decide)
    replace hz := k5.size.trans hz
    replace hd := k5.defers.trans hd
    refine wp_ret ?_
    exact post_slot rfl hd (get_of_bool e2) (Ret.b (by unfold isLetter; rw [hc1_1, hc1_4, hc1_8]; try rfl) hB)
 | false =>
  cases hc1_8 : (decide ((65 : Int) ≤ ((c.toNat : Nat) : Int)) : Bool) with
  | true =>
   cases hc1_11 : (decide ((((c.toNat : Nat) : Int) : Int) ≤ 90) : Bool) with
   | true =>
    have hlast : lastOk (regOps Tryd.f85 1) 15 = true := by kernel_rfl
    refine region_ws (n := 15) [some (.int .u8 ((c.toNat : Nat) : Int)), some (.bool false), some (.bool false), some undef, some undef, some (.bool false), some (.bool false), some (.int .u8 ((c.toNat : Nat) : Int)), some (.bool true), some (.bool true), some (.int .u8 ((c.toNat : Nat) : Int)), some (.bool true), some (.bool true), some (.bool true), some (.bool true)] 15 w0 w0 (by rw [hz]; kernel_rfl) (by kernel_rfl) (by kernel_rfl) (by kernel_rfl) ?_ fun L a6 w6 hL st => ?_
    ·refine ⟨⟨⟨⟨⟨⟨⟨⟨⟨⟨⟨⟨⟨⟨⟨trivial, ?_⟩, ?_⟩, ?_⟩, ?_⟩, ?_⟩, ?_⟩, ?_⟩, ?_⟩, ?_⟩, ?_⟩, ?_⟩, ?_⟩, ?_⟩, ?_⟩, ?_⟩
     ·intro oo aa ww LL hho hLL haft st; obtain rfl := Option.some.inj hho; exact payW_move st hlast hLL (by decide) (want_none rfl) rfl (st.outV (by kernel_rfl) e0) rfl
     ·intro oo aa ww LL hho hLL haft st; obtain rfl := Option.some.inj hho; exact payW st hlast hLL (by decide) (want_none rfl) ((run_ge8 rfl (st.argV (j := 0) (aft_of haft (by kernel_rfl)) rfl rfl) rfl).trans (okB (c := false) hc1_1)) rfl
     ·intro oo aa ww LL hho hLL haft st; obtain rfl := Option.some.inj hho; exact payW_move st hlast hLL (by decide) (want_none rfl) rfl (st.argV (j := 1) (aft_of haft (by kernel_rfl)) rfl rfl) rfl
     ·intro oo aa ww LL hho hLL haft st; obtain rfl := Option.some.inj hho; exact st.skipW hlast hLL (by decide) haft rfl (by kernel_rfl) rfl (.inl rfl) rfl
     ·intro oo aa ww LL hho hLL haft st; obtain rfl := Option.some.inj hho; exact st.skipW hlast hLL (by decide) haft rfl (by kernel_rfl) rfl (.inl rfl) rfl
     ·intro oo aa ww LL hho hLL haft st; obtain rfl := Option.some.inj hho; exact payW_pick st hlast hLL (by decide) (want_none rfl) rfl (st.argV (j := 2) (aft_of haft (by kernel_rfl)) rfl rfl) rfl rfl
     ·intro oo aa ww LL hho hLL haft st; obtain rfl := Option.some.inj hho; exact payW_move st hlast hLL (by decide) (want_none rfl) rfl (st.argV (j := 5) (aft_of haft (by kernel_rfl)) rfl rfl) rfl
     ·intro oo aa ww LL hho hLL haft st; obtain rfl := Option.some.inj hho; exact payW_move st hlast hLL (by decide) (st.wantV haft rfl (by kernel_rfl) rfl) rfl (st.outV (by kernel_rfl) e0) rfl
     ·intro oo aa ww LL hho hLL haft st; obtain rfl := Option.some.inj hho; exact payW st hlast hLL (by decide) (st.wantV haft rfl (by kernel_rfl) rfl) ((run_ge8 rfl (st.argV (j := 7) (aft_of haft (by kernel_rfl)) rfl rfl) rfl).trans (okB (c := true) hc1_8)) rfl
     ·intro oo aa ww LL hho hLL haft st; obtain rfl := Option.some.inj hho; exact payW_move st hlast hLL (by decide) (st.wantV haft rfl (by kernel_rfl) rfl) rfl (st.argV (j := 8) (aft_of haft (by kernel_rfl)) rfl rfl) rfl
     ·intro oo aa ww LL hho hLL haft st; obtain rfl := Option.some.inj hho; exact payW_move st hlast hLL (by decide) (st.wantV haft rfl (by kernel_rfl) rfl) rfl (st.outV (by kernel_rfl) e0) rfl
     ·intro oo aa ww LL hho hLL haft st; obtain rfl := Option.some.inj hho; exact payW st hlast hLL (by decide) (st.wantV haft rfl (by kernel_rfl) rfl) ((run_le8 rfl (st.argV (j := 10) (aft_of haft (by kernel_rfl)) rfl rfl) rfl).trans (okB (c := true) hc1_11)) rfl
     ·intro oo aa ww LL hho hLL haft st; obtain rfl := Option.some.inj hho; exact payW_pick st hlast hLL (by decide) (st.wantV haft rfl (by kernel_rfl) rfl) rfl (st.argV (j := 9) (aft_of haft (by kernel_rfl)) rfl rfl) (st.argV (j := 11) (aft_of haft (by kernel_rfl)) rfl rfl) rfl
     ·intro oo aa ww LL hho hLL haft st; obtain rfl := Option.some.inj hho; exact payW_pick st hlast hLL (by decide) (want_none rfl) rfl (st.argV (j := 6) (aft_of haft (by kernel_rfl)) rfl rfl) (st.argV (j := 12) (aft_of haft (by kernel_rfl)) rfl rfl) rfl
     ·intro oo aa ww LL hho hLL haft st; obtain rfl := Option.some.inj hho; exact payW st hlast hLL (by decide) (want_none rfl) (run_assignV rfl (st.argV (j := 13) (aft_of haft (by kernel_rfl)) rfl rfl)) rfl
    clear hlast
    rw [st.end1 (Nat.le_of_eq (by kernel_rfl))]
    have k6 : KeepM 3 [2] a1 a6 := st.keepM (by kernel_rfl)
    have e2 : a6.eval (.tmp 2) = (.bool true) := st.argV (j := 14) (hL 14 (by omega)) rfl rfl
    clear st hL L
    replace e0 := k6.ev e0 (by decide)
    replace hz := k6.size.trans hz
    replace hd := k6.defers.trans hd
    refine wp_ret ?_
    exact post_slot rfl hd (get_of_bool e2) (Ret.b (by unfold isLetter; rw [hc1_1, hc1_8, hc1_11]; try rfl) hB)
   | false =>
    have hlast : lastOk (regOps Tryd.f85 1) 15 = true := by kernel_rfl
    refine region_ws (n := 15) [some (.int .u8 ((c.toNat : Nat) : Int)), some (.bool false), some (.bool false), some undef, some undef, some (.bool false), some (.bool false), some (.int .u8 ((c.toNat : Nat) : Int)), some (.bool true), some (.bool true), some (.int .u8 ((c.toNat : Nat) : Int)), some (.bool false), some (.bool false), some (.bool false), some (.bool false)] 15 w0 w0 (by rw [hz]; kernel_rfl) (by kernel_rfl) (by kernel_rfl) (by kernel_rfl) ?_ fun L a7 w7 hL st => ?_
    ·refine ⟨⟨⟨⟨⟨⟨⟨⟨⟨⟨⟨⟨⟨⟨⟨trivial, ?_⟩, ?_⟩, ?_⟩, ?_⟩, ?_⟩, ?_⟩, ?_⟩, ?_⟩, ?_⟩, ?_⟩, ?_⟩, ?_⟩, ?_⟩, ?_⟩, ?_⟩
     ·intro oo aa ww LL hho hLL haft st; obtain rfl := Option.some.inj hho; exact payW_move st hlast hLL (by decide) (want_none rfl) rfl (st.outV (by kernel_rfl) e0) rfl
     ·intro oo aa ww LL hho hLL haft st; obtain rfl := Option.some.inj hho; exact payW st hlast hLL (by decide) (want_none rfl) ((run_ge8 rfl (st.argV (j := 0) (aft_of haft (by kernel_rfl)) rfl rfl) rfl).trans (okB (c := false) hc1_1)) rfl
     ·intro oo aa ww LL hho hLL haft st; obtain rfl := Option.some.inj hho; exact payW_move st hlast hLL (by decide) (want_none rfl) rfl (st.argV (j := 1) (aft_of haft (by kernel_rfl)) rfl rfl) rfl
     ·intro oo aa ww LL hho hLL haft st; obtain rfl := Option.some.inj hho; exact st.skipW hlast hLL (by decide) haft rfl (by kernel_rfl) rfl (.inl rfl) rfl
     ·intro oo aa ww LL hho hLL haft st; obtain rfl := Option.some.inj hho; exact st.skipW hlast hLL (by decide) haft rfl (by kernel_rfl) rfl (.inl rfl) rfl
     ·intro oo aa ww LL hho hLL haft st; obtain rfl := Option.some.inj hho; exact payW_pick st hlast hLL (by decide) (want_none rfl) rfl (st.argV (j := 2) (aft_of haft (by kernel_rfl)) rfl rfl) rfl rfl
     ·intro oo aa ww LL hho hLL haft st; obtain rfl := Option.some.inj hho; exact payW_move st hlast hLL (by decide) (want_none rfl) rfl (st.argV (j := 5) (aft_of haft (by kernel_rfl)) rfl rfl) rfl
     ·intro oo aa ww LL hho hLL haft st; obtain rfl := Option.some.inj hho; exact payW_move st hlast hLL (by decide) (st.wantV haft rfl (by kernel_rfl) rfl) rfl (st.outV (by kernel_rfl) e0) rfl
     ·intro oo aa ww LL hho hLL haft st; obtain rfl := Option.some.inj hho; exact payW st hlast hLL (by decide) (st.wantV haft rfl (by kernel_rfl) rfl) ((run_ge8 rfl (st.argV (j := 7) (aft_of haft (by kernel_rfl)) rfl rfl) rfl).trans (okB (c := true) hc1_8)) rfl
     ·intro oo aa ww LL hho hLL haft st; obtain rfl := Option.some.inj hho; exact payW_move st hlast hLL (by decide) (st.wantV haft rfl (by kernel_rfl) rfl) rfl (st.argV (j := 8) (aft_of haft (by kernel_rfl)) rfl rfl) rfl
     ·intro oo aa ww LL hho hLL haft st; obtain rfl := Option.some.inj hho; exact payW_move st hlast hLL (by decide) (st.wantV haft rfl (by kernel_rfl) rfl) rfl (st.outV (by kernel_rfl) e0) rfl
     ·intro oo aa ww LL hho hLL haft st; obtain rfl := Option.some.inj hho; exact payW st hlast hLL (by decide) (st.wantV haft rfl (by kernel_rfl) rfl) ((run_le8 rfl (st.argV (j := 10) (aft_of haft (by kernel_rfl)) rfl rfl) rfl).trans (okB (c := false) hc1_11)) rfl
     ·intro oo aa ww LL hho hLL haft st; obtain rfl := Option.some.inj hho; exact payW_pick st hlast hLL (by decide) (st.wantV haft rfl (by kernel_rfl) rfl) rfl (st.argV (j := 9) (aft_of haft (by kernel_rfl)) rfl rfl) (st.argV (j := 11) (aft_of haft (by kernel_rfl)) rfl rfl) rfl
     ·intro oo aa ww LL hho hLL haft st; obtain rfl := Option.some.inj hho; exact payW_pick st hlast hLL (by decide) (want_none rfl) rfl (st.argV (j := 6) (aft_of haft (by kernel_rfl)) rfl rfl) (st.argV (j := 12) (aft_of haft (by kernel_rfl)) rfl rfl) rfl
     ·intro oo aa ww LL hho hLL haft st; obtain rfl := Option.some.inj hho; exact payW st hlast hLL (by decide) (want_none rfl) (run_assignV rfl (st.argV (j := 13) (aft_of haft (by kernel_rfl)) rfl rfl)) rfl
    clear hlast
    rw [st.end1 (Nat.le_of_eq (by kernel_rfl))]
    have k7 : KeepM 3 [2] a1 a7 := st.keepM (by kernel_rfl)
    have e2 : a7.eval (.tmp 2) = (.bool false) := st.argV (j := 14) (hL 14 (by omega)) rfl rfl
    clear st hL L
    replace e0 := k7.ev e0 (by decide)
    replace hz := k7.size.trans hz
    replace hd := k7.defers.trans hd
    refine wp_ret ?_
    exact post_slot rfl hd (get_of_bool e2) (Ret.b (by unfold isLetter; rw [hc1_1, hc1_8, hc1_11]; try rfl) hB)
  | false =>
   have hlast : lastOk (regOps Tryd.f85 1) 15 = true := by kernel_rfl
   refine region_ws (n := 15) [some (.int .u8 ((c.toNat : Nat) : Int)), some (.bool false), some (.bool false), some undef, some undef, some (.bool false), some (.bool false), some (.int .u8 ((c.toNat : Nat) : Int)), some (.bool false), some (.bool false), some undef, some undef, some (.bool false), some (.bool false), some (.bool false)] 15 w0 w0 (by rw [hz]; kernel_rfl) (by kernel_rfl) (by kernel_rfl) (by kernel_rfl) ?_ fun L a8 w8 hL st => ?_
   ·refine ⟨⟨⟨⟨⟨⟨⟨⟨⟨⟨⟨⟨⟨⟨⟨trivial, ?_⟩, ?_⟩, ?_⟩, ?_⟩, ?_⟩, ?_⟩, ?_⟩, ?_⟩, ?_⟩, ?_⟩, ?_⟩, ?_⟩, ?_⟩, ?_⟩, ?_⟩
    ·intro oo aa ww LL hho hLL haft st; obtain rfl := Option.some.inj hho; exact payW_move st hlast hLL (by decide) (want_none rfl) rfl (st.outV (by kernel_rfl) e0) rfl
    ·intro oo aa ww LL hho hLL haft st; obtain rfl := Option.some.inj hho; exact payW st hlast hLL (by decide) (want_none rfl) ((run_ge8 rfl (st.argV (j := 0) (aft_of haft (by kernel_rfl)) rfl rfl) rfl).trans (okB (c := false) hc1_1)) rfl
    ·intro oo aa ww LL hho hLL haft st; obtain rfl := Option.some.inj hho; exact payW_move st hlast hLL (by decide) (want_none rfl) rfl (st.argV (j := 1) (aft_of haft (by kernel_rfl)) rfl rfl) rfl
    ·intro oo aa ww LL hho hLL haft st; obtain rfl := Option.some.inj hho; exact st.skipW hlast hLL (by decide) haft rfl (by kernel_rfl) rfl (.inl rfl) rfl
    ·intro oo aa ww LL hho hLL haft st; obtain rfl := Option.some.inj hho; exact st.skipW hlast hLL (by decide) haft rfl (by kernel_rfl) rfl (.inl rfl) rfl
    ·intro oo aa ww LL hho hLL haft st; obtain rfl := Option.some.inj hho; exact payW_pick st hlast hLL (by decide) (want_none rfl) rfl (st.argV (j := 2) (aft_of haft (by kernel_rfl)) rfl rfl) rfl rfl
    ·intro oo aa ww LL hho hLL haft st; obtain rfl := Option.some.inj hho; exact payW_move st hlast hLL (by decide) (want_none rfl) rfl (st.argV (j := 5) (aft_of haft (by kernel_rfl)) rfl rfl) rfl
    ·intro oo aa ww LL hho hLL haft st; obtain rfl := Option.some.inj hho; exact payW_move st hlast hLL (by decide) (st.wantV haft rfl (by kernel_rfl) rfl) rfl (st.outV (by kernel_rfl) e0) rfl
    ·intro oo aa ww LL hho hLL haft st; obtain rfl := Option.some.inj hho; exact payW st hlast hLL (by decide) (st.wantV haft rfl (by kernel_rfl) rfl) ((run_ge8 rfl (st.argV (j := 7) (aft_of haft (by kernel_rfl)) rfl rfl) rfl).trans (okB (c := false) hc1_8)) rfl
    ·intro oo aa ww LL hho hLL haft st; obtain rfl := Option.some.inj hho; exact payW_move st hlast hLL (by decide) (st.wantV haft rfl (by kernel_rfl) rfl) rfl (st.argV (j := 8) (aft_of haft (by kernel_rfl)) rfl rfl) rfl
    ·intro oo aa ww LL hho hLL haft st; obtain rfl := Option.some.inj hho; exact st.skipW hlast hLL (by decide) haft rfl (by kernel_rfl) rfl (.inl rfl) rfl
    ·intro oo aa ww LL hho hLL haft st; obtain rfl := Option.some.inj hho; exact st.skipW hlast hLL (by decide) haft rfl (by kernel_rfl) rfl (.inl rfl) rfl
    ·intro oo aa ww LL hho hLL haft st; obtain rfl := Option.some.inj hho; exact payW_pick st hlast hLL (by decide) (st.wantV haft rfl (by kernel_rfl) rfl) rfl (st.argV (j := 9) (aft_of haft (by kernel_rfl)) rfl rfl) rfl rfl
    ·intro oo aa ww LL hho hLL haft st; obtain rfl := Option.some.inj hho; exact payW_pick st hlast hLL (by decide) (want_none rfl) rfl (st.argV (j := 6) (aft_of haft (by kernel_rfl)) rfl rfl) (st.argV (j := 12) (aft_of haft (by kernel_rfl)) rfl rfl) rfl
    ·intro oo aa ww LL hho hLL haft st; obtain rfl := Option.some.inj hho; exact payW st hlast hLL (by decide) (want_none rfl) (run_assignV rfl (st.argV (j := 13) (aft_of haft (by kernel_rfl)) rfl rfl)) rfl
   clear hlast
   rw [st.end1 (Nat.le_of_eq (by kernel_rfl))]
   have k8 : KeepM 3 [2] a1 a8 := st.keepM (by kernel_rfl)
   have e2 : a8.eval (.tmp 2) = (.bool false) := st.argV (j := 14) (hL 14 (by omega)) rfl rfl
   clear st hL L
   replace e0 := k8.ev e0 (by decide)
   replace hz := k8.size.trans hz
   replace hd := k8.defers.trans hd
   refine wp_ret ?_
   exact post_slot rfl hd (get_of_bool e2) (Ret.b (by unfold isLetter; rw [hc1_1, hc1_8]; try rfl) hB)
theorem en_ref_letter : Enters Tryd.prog 85 := enters_of Tryd.func85 (by kernel_rfl) rfl
set_option maxRecDepth 100000 in
theorem ref_digit (c : UInt8) (w0 : World) : Calls Tryd.prog 86 #[.int .u8 ((c.toNat : Nat) : Int)] w0 (Ret w0 (.bool (isDigit c))) := by
 refine calls_of_wp Tryd.func86 rfl ?_
 obtain ⟨hz, e0⟩ := start_act1 9 ((.int .u8 ((c.toNat : Nat) : Int))) (by decide)
 have hd : ({ tmps := #[(.int .u8 ((c.toNat : Nat) : Int))] ++ Array.replicate (9 - 1) undef, defers := [] } : Act).defers = [] := rfl
 rw [show Tryd.f86.ntmps - (#[(.int .u8 ((c.toNat : Nat) : Int))] : Array Value).size = 9 - 1 from rfl]
 generalize ({ tmps := #[(.int .u8 ((c.toNat : Nat) : Int))] ++ Array.replicate (9 - 1) undef, defers := [] } : Act) = a0 at hz e0 hd ⊢
 have hB : Below w0.heap.size w0 w0 := Below.refl _ _
 have hS := hB.size
 refine wp_seq ?_
 refine seq_startL (l := [0]) (by kernel_rfl) ?_
 refine seq_assign 2 (v := (.bool false)) rfl rfl rfl rfl rfl ?_
 refine seq_nil ?_
 refine seq_out ((KeepM.refl 3 [2] a0).put (by decide)) fun a1 k1 tr => ?_
 have f2 := tr 2 (.bool false) (ev_same (by first | (rw [hz]; decide) | (simp only [size_put, hz]; decide)))
 clear tr
 replace e0 := k1.ev e0 (by decide)
 replace hz := k1.size.trans hz
 replace hd := k1.defers.trans hd
 have e2 := f2
 clear f2
 refine wp_seq ?_
 cases hc1_1 : (decide ((48 : Int) ≤ ((c.toNat : Nat) : Int)) : Bool) with
 | true =>
  cases hc1_4 : (decide ((((c.toNat : Nat) : Int) : Int) ≤ 57) : Bool) with
  | true =>
   have hlast : lastOk (regOps Tryd.f86 1) 7 = true := by kernel_rfl
   refine region_ws (n := 7) [some (.int .u8 ((c.toNat : Nat) : Int)), some (.bool true), some (.bool true), some (.int .u8 ((c.toNat : Nat) : Int)), some (.bool true), some (.bool true), some (.bool true)] 7 w0 w0 (by rw [hz]; kernel_rfl) (by kernel_rfl) (by kernel_rfl) (by kernel_rfl) ?_ fun L a2 w2 hL st => ?_
   ·refine ⟨⟨⟨⟨⟨⟨⟨trivial, ?_⟩, ?_⟩, ?_⟩, ?_⟩, ?_⟩, ?_⟩, ?_⟩
    ·intro oo aa ww LL hho hLL haft st; obtain rfl := Option.some.inj hho; exact payW_move st hlast hLL (by decide) (want_none rfl) rfl (st.outV (by kernel_rfl) e0) rfl
    ·intro oo aa ww LL hho hLL haft st; obtain rfl := Option.some.inj hho; exact payW st hlast hLL (by decide) (want_none rfl) ((run_ge8 rfl (st.argV (j := 0) (aft_of haft (by kernel_rfl)) rfl rfl) rfl).trans (okB (c := true) hc1_1)) rfl
    ·intro oo aa ww LL hho hLL haft st; obtain rfl := Option.some.inj hho; exact payW_move st hlast hLL (by decide) (want_none rfl) rfl (st.argV (j := 1) (aft_of haft (by kernel_rfl)) rfl rfl) rfl
    ·intro oo aa ww LL hho hLL haft st; obtain rfl := Option.some.inj hho; exact payW_move st hlast hLL (by decide) (st.wantV haft rfl (by kernel_rfl) rfl) rfl (st.outV (by kernel_rfl) e0) rfl
    ·intro oo aa ww LL hho hLL haft st; obtain rfl := Option.some.inj hho; exact payW st hlast hLL (by decide) (st.wantV haft rfl (by kernel_rfl) rfl) ((run_le8 rfl (st.argV (j := 3) (aft_of haft (by kernel_rfl)) rfl rfl) rfl).trans (okB (c := true) hc1_4)) rfl
    ·intro oo aa ww LL hho hLL haft st; obtain rfl := Option.some.inj hho; exact payW_pick st hlast hLL (by decide) (want_none rfl) rfl (st.argV (j := 2) (aft_of haft (by kernel_rfl)) rfl rfl) (st.argV (j := 4) (aft_of haft (by kernel_rfl)) rfl rfl) rfl
    ·intro oo aa ww LL hho hLL haft st; obtain rfl := Option.some.inj hho; exact payW st hlast hLL (by decide) (want_none rfl) (run_assignV rfl (st.argV (j := 5) (aft_of haft (by kernel_rfl)) rfl rfl)) rfl
   clear hlast
   rw [st.end1 (Nat.le_of_eq (by kernel_rfl))]
   have k2 : KeepM 3 [2] a1 a2 := st.keepM (by kernel_rfl)
   have e2 : a2.eval (.tmp 2) = (.bool true) := st.argV (j := 6) (hL 6 (by omega)) rfl rfl
   clear st hL L
   replace e0 := k2.ev e0 (by decide)
   replace hz := k2.size.trans hz
   replace hd := k2.defers.trans hd
   refine wp_ret ?_
   exact post_slot rfl hd (get_of_bool e2) (Ret.b (by unfold isDigit; rw [hc1_1, hc1_4]; try rfl) hB)
  | false =>
   have hlast : lastOk (regOps Tryd.f86 1) 7 = true := by kernel_rfl
   refine region_ws (n := 7) [some (.int .u8 ((c.toNat : Nat) : Int)), some (.bool true), some (.bool true), some (.int .u8 ((c.toNat : Nat) : Int)), some (.bool false), some (.bool false), some (.bool false)] 7 w0 w0 (by rw [hz]; kernel_rfl) (by kernel_rfl) (by kernel_rfl) (by kernel_rfl) ?_ fun L a3 w3 hL st => ?_
   ·refine ⟨⟨⟨⟨⟨⟨⟨trivial, ?_⟩, ?_⟩, ?_⟩, ?_⟩, ?_⟩, ?_⟩, ?_⟩
    ·intro oo aa ww LL hho hLL haft st; obtain rfl := Option.some.inj hho; exact payW_move st hlast hLL (by decide) (want_none rfl) rfl (st.outV (by kernel_rfl) e0) rfl
    ·intro oo aa ww LL hho hLL haft st; obtain rfl := Option.some.inj hho; exact payW st hlast hLL (by decide) (want_none rfl) ((run_ge8 rfl (st.argV (j := 0) (aft_of haft (by kernel_rfl)) rfl rfl) rfl).trans (okB (c := true) hc1_1)) rfl
    ·intro oo aa ww LL hho hLL haft st; obtain rfl := Option.some.inj hho; exact payW_move st hlast hLL (by decide) (want_none rfl) rfl (st.argV (j := 1) (aft_of haft (by kernel_rfl)) rfl rfl) rfl
    ·intro oo aa ww LL hho hLL haft st; obtain rfl := Option.some.inj hho; exact payW_move st hlast hLL (by decide) (st.wantV haft rfl (by kernel_rfl) rfl) rfl (st.outV (by kernel_rfl) e0) rfl
    ·intro oo aa ww LL hho hLL haft st; obtain rfl := Option.some.inj hho; exact payW st hlast hLL (by decide) (st.wantV haft rfl (by kernel_rfl) rfl) ((run_le8 rfl (st.argV (j := 3) (aft_of haft (by kernel_rfl)) rfl rfl) rfl).trans (okB (c := false) hc1_4)) rfl
    ·intro oo aa ww LL hho hLL haft st; obtain rfl := Option.some.inj hho; exact payW_pick st hlast hLL (by decide) (want_none rfl) rfl (st.argV (j := 2) (aft_of haft (by kernel_rfl)) rfl rfl) (st.argV (j := 4) (aft_of haft (by kernel_rfl)) rfl rfl) rfl
    ·intro oo aa ww LL hho hLL haft st; obtain rfl := Option.some.inj hho; exact payW st hlast hLL (by decide) (want_none rfl) (run_assignV rfl (st.argV (j := 5) (aft_of haft (by kernel_rfl)) rfl rfl)) rfl
   clear hlast
   rw [st.end1 (Nat.le_of_eq (by kernel_rfl))]
   have k3 : KeepM 3 [2] a1 a3 := st.keepM (by kernel_rfl)
   have e2 : a3.eval (.tmp 2) = (.bool false) := st.argV (j := 6) (hL 6 (by omega)) rfl rfl
   clear st hL L
   replace e0 := k3.ev e0 (by decide)
   replace hz := k3.size.trans hz
   replace hd := k3.defers.trans hd
   refine wp_ret ?_
   exact post_slot rfl hd (get_of_bool e2) (Ret.b (by unfold isDigit; rw [hc1_1, hc1_4]; try rfl) hB)
 | false =>
  have hlast : lastOk (regOps Tryd.f86 1) 7 = true := by kernel_rfl
  refine region_ws (n := 7) [some (.int .u8 ((c.toNat : Nat) : Int)), some (.bool false), some (.bool false), some undef, some undef, some (.bool false), some (.bool false)] 7 w0 w0 (by rw [hz]; kernel_rfl) (by kernel_rfl) (by kernel_rfl) (by kernel_rfl) ?_ fun L a4 w4 hL st => ?_
  ·refine ⟨⟨⟨⟨⟨⟨⟨trivial, ?_⟩, ?_⟩, ?_⟩, ?_⟩, ?_⟩, ?_⟩, ?_⟩
   ·intro oo aa ww LL hho hLL haft st; obtain rfl := Option.some.inj hho; exact payW_move st hlast hLL (by decide) (want_none rfl) rfl (st.outV (by kernel_rfl) e0) rfl
   ·intro oo aa ww LL hho hLL haft st; obtain rfl := Option.some.inj hho; exact payW st hlast hLL (by decide) (want_none rfl) ((run_ge8 rfl (st.argV (j := 0) (aft_of haft (by kernel_rfl)) rfl rfl) rfl).trans (okB (c := false) hc1_1)) rfl
   ·intro oo aa ww LL hho hLL haft st; obtain rfl := Option.some.inj hho; exact payW_move st hlast hLL (by decide) (want_none rfl) rfl (st.argV (j := 1) (aft_of haft (by kernel_rfl)) rfl rfl) rfl
   ·intro oo aa ww LL hho hLL haft st; obtain rfl := Option.some.inj hho; exact st.skipW hlast hLL (by decide) haft rfl (by kernel_rfl) rfl (.inl rfl) rfl
   ·intro oo aa ww LL hho hLL haft st; obtain rfl := Option.some.inj hho; exact st.skipW hlast hLL (by decide) haft rfl (by kernel_rfl) rfl (.inl rfl) rfl
   ·intro oo aa ww LL hho hLL haft st; obtain rfl := Option.some.inj hho; exact payW_pick st hlast hLL (by decide) (want_none rfl) rfl (st.argV (j := 2) (aft_of haft (by kernel_rfl)) rfl rfl) rfl rfl
   ·intro oo aa ww LL hho hLL haft st; obtain rfl := Option.some.inj hho; exact payW st hlast hLL (by decide) (want_none rfl) (run_assignV rfl (st.argV (j := 5) (aft_of haft (by kernel_rfl)) rfl rfl)) rfl
  clear hlast
  rw [st.end1 (Nat.le_of_eq (by kernel_rfl))]
  have k4 : KeepM 3 [2] a1 a4 := st.keepM (by kernel_rfl)
  have e2 : a4.eval (.tmp 2) = (.bool false) := st.argV (j := 6) (hL 6 (by omega)) rfl rfl
  clear st hL L
  replace e0 := k4.ev e0 (by decide)
  replace hz := k4.size.trans hz
  replace hd := k4.defers.trans hd
  refine wp_ret ?_
  exact post_slot rfl hd (get_of_bool e2) (Ret.b (by unfold isDigit; rw [hc1_1]; try rfl) hB)
theorem en_ref_digit : Enters Tryd.prog 86 := enters_of Tryd.func86 (by kernel_rfl) rfl

def keyL : List (List UInt8) := [[115, 104, 97, 114, 101, 100], [112, 108, 97, 105, 110], [116, 104, 114, 101, 97, 100], [105, 102], [101, 108, 115, 101], [119, 104, 105, 108, 101], [108, 111, 97, 100], [115, 116, 111, 114, 101], [99, 97, 115], [97, 100, 100], [115, 119, 97, 112], [102, 101, 110, 99, 101], [97, 115, 115, 117, 109, 101], [97, 115, 115, 101, 114, 116], [110, 97], [114, 108, 120], [97, 99, 113], [114, 101, 108], [97, 114], [115, 99]]
theorem ref_keys (w0 : World) : Calls Tryd.prog 101 #[] w0 (RetQ w0 fun v w' => ∃ g, v = .slice (some ⟨g, 0, none⟩) 20 20 ∧ RowT w' g 9 (keyL.map Str)) := by
 refine calls_of_wp Tryd.func101 rfl ?_
 have hz : ({ tmps := #[] ++ Array.replicate (Tryd.f101.ntmps - 0) undef, defers := [] } : Act).tmps.size = 2 := rfl
 have hd : ({ tmps := #[] ++ Array.replicate (Tryd.f101.ntmps - 0) undef, defers := [] } : Act).defers = [] := rfl
 rw [show Tryd.f101.ntmps - (#[] : Array Value).size = Tryd.f101.ntmps - 0 from rfl]
 generalize ({ tmps := #[] ++ Array.replicate (Tryd.f101.ntmps - 0) undef, defers := [] } : Act) = a0 at hz hd ⊢
 refine wp_seq ?_
 refine seq_startL (l := [0]) (by kernel_rfl) ?_
 refine seq_assign 0 rfl rfl rfl rfl rfl ?_
 refine seq_nil ?_
 refine wp_seq ?_
 refine seq_startL (l := [0, 1]) (by kernel_rfl) ?_
 refine seq_valD 1 (v := .slice (some ⟨w0.heap.size, 0, none⟩) 20 20) (w' := w0.alloc (.cells (keyL.map Str).toArray 9)) rfl rfl rfl (by simp [execOp, go_sem, keyL, Str]) ?_
 refine seq_assign 0 rfl rfl rfl rfl (ev_same (by simp only [size_put, hz]; decide)) ?_
 refine seq_nil ?_
 refine wp_ret ?_
 exact post_slot rfl (by simp only [defers_put]; exact hd) (get_of_slice (ev_same (by simp only [size_put, hz]; decide))) ⟨_, rfl, ⟨w0.heap.size, rfl, RowT.new w0 _ _⟩, below_alloc w0 _⟩
theorem en_ref_keys : Enters Tryd.prog 101 := enters_of Tryd.func101 (by kernel_rfl) rfl
/-- The kind of a word. -/
def kindOf (l : List UInt8) : Nat := if l ∈ keyL then 2 else 1
theorem kind_yes {l : List UInt8} {i : Nat} (h : keyL[i]? = some l) : kindOf l = 2 := by unfold kindOf; rw [if_pos (List.mem_of_getElem? h)]
theorem kind_no {l : List UInt8} (h : ∀ j, j < 20 → keyL[j]? ≠ some l) : kindOf l = 1 := by
 unfold kindOf
 rw [if_neg ?_]
 intro hm
 obtain ⟨j, hj, e⟩ := List.getElem_of_mem hm
 exact h j (by simpa [keyL] using hj) (by rw [List.getElem?_eq_getElem hj, e])
theorem run_ixStr {o : Oper} {ρ : Operand → Value} {w : World} {x y : Operand} {ad : Addr} {n c k : Nat} (hop : o.op = .indexAddr 50 x y) (hx : ρ x = .slice (some ad) n c) (hy : ρ y = .int .i64 (k : Nat)) (hk : k < n) : (execOp ρ o).run Tryd.prog w = .ok (.value (.pointer (some (ad.add k)))) w := by
 simp [execOp, hop, hx, hy, go_sem, hk]
theorem run_ldStr {o : Oper} {ρ : Operand → Value} {w : World} {x : Operand} {p : Addr} {v : Value} (hop : o.op = .load 9 x) (hx : ρ x = .pointer (some p)) (hr : w.cell? p = some v) : (execOp ρ o).run Tryd.prog w = .ok (.value v) w := by
 simp [execOp, hop, hx, go_sem, hr]
theorem run_lenStr {o : Oper} {ρ : Operand → Value} {w : World} {x : Operand} {A : Option Addr} {n c : Nat} (hop : o.op = .call { callee := .builtin .len, args := #[x], argTypes := #[50] }) (hx : ρ x = .slice A n c) : (execOp ρ o).run Tryd.prog w = .ok (.value (.int .i64 (n : Nat))) w := by
 simp [execOp, hop, hx, go_sem]
theorem RowT.addc {w : World} {g k : Nat} {t : TypeId} {cs : List Value} {v : Value} (h : RowT w g t cs) (hv : cs[k]? = some v) : w.cell? ((⟨g, 0, none⟩ : Addr).add k) = some v := by
 have e : (⟨g, 0, none⟩ : Addr).add k = ⟨g, k, none⟩ := by unfold Addr.add; split <;> simp_all
 rw [e, h.cell k]; exact hv
set_option maxRecDepth 100000 in
set_option maxHeartbeats 4000000 in
theorem ref_kind (l : List UInt8) (w0 : World) : Calls Tryd.prog 87 #[Str l] w0 (Ret w0 (.int .i64 ((kindOf l : Nat) : Int))) := by
 refine calls_of_wp Tryd.func87 rfl ?_
 obtain ⟨hz, e0⟩ := start_act1 18 ((Str l)) (by decide)
 have hd : ({ tmps := #[(Str l)] ++ Array.replicate (18 - 1) undef, defers := [] } : Act).defers = [] := rfl
 rw [show Tryd.f87.ntmps - (#[(Str l)] : Array Value).size = 18 - 1 from rfl]
 generalize ({ tmps := #[(Str l)] ++ Array.replicate (18 - 1) undef, defers := [] } : Act) = a0 at hz e0 hd ⊢
 have hB : Below w0.heap.size w0 w0 := Below.refl _ _
 have hS := hB.size
 refine wp_seq ?_
 refine seq_startL (l := [0]) (by kernel_rfl) ?_
 refine seq_assign 2 (v := (.int .i64 0)) rfl rfl rfl rfl rfl ?_
 refine seq_nil ?_
 refine seq_out ((KeepM.refl 5 [2] a0).put (by decide)) fun a1 k1 tr => ?_
 have f2 := tr 2 (.int .i64 0) (ev_same (by first | (rw [hz]; decide) | (simp only [size_put, hz]; decide)))
 clear tr
 replace e0 := k1.ev e0 (by decide)
 replace hz := k1.size.trans hz
 replace hd := k1.defers.trans hd
 have e2 := f2
 clear f2
 refine wp_seq ?_
 refine seq_startL (l := [0, 1]) (by kernel_rfl) ?_
 refine seq_callD 5 rfl rfl rfl en_ref_keys rfl (by simp) ((ref_keys w0).mono ?_)
 rintro e w2 ⟨v2, rfl, ⟨g, rfl, y⟩, hb2⟩
 refine ⟨_, rfl, ?_⟩
 replace hB := Below.next hB hb2
 replace hS := hB.size
 refine seq_assign 3 (v := (.slice (some ⟨g, 0, none⟩) 20 20)) rfl rfl rfl rfl (ev_same (by first | (rw [hz]; decide) | (simp only [size_put, hz]; decide))) ?_
 refine seq_nil ?_
 refine seq_out (((KeepM.refl 5 [3] a1).put (by decide)).put (by decide)) fun a3 k3 tr => ?_
 have f3 := tr 3 (.slice (some ⟨g, 0, none⟩) 20 20) (ev_same (by first | (rw [hz]; decide) | (simp only [size_put, hz]; decide)))
 clear tr
 replace e0 := k3.ev e0 (by decide)
 replace e2 := k3.ev e2 (by decide)
 replace hz := k3.size.trans hz
 replace hd := k3.defers.trans hd
 have e3 := f3
 clear f3
 refine wp_seq ?_
 refine wp_seq ?_
 refine seq_startL (l := [0]) (by kernel_rfl) ?_
 refine seq_assign 4 (v := (.int .i64 0)) rfl rfl rfl rfl rfl ?_
 refine seq_nil ?_
 refine seq_out ((KeepM.refl 5 [4] a3).put (by decide)) fun a4 k4 tr => ?_
 have f4 := tr 4 (.int .i64 0) (ev_same (by first | (rw [hz]; decide) | (simp only [size_put, hz]; decide)))
 clear tr
 replace e0 := k4.ev e0 (by decide)
 replace e2 := k4.ev e2 (by decide)
 replace e3 := k4.ev e3 (by decide)
 replace hz := k4.size.trans hz
 replace hd := k4.defers.trans hd
 have e4 := f4
 clear f4
 have hno : ∀ j, j < 0 → keyL[j]? ≠ some l := fun j h => absurd h (Nat.not_lt_zero j)
 refine wp_block ?_
 refine wp_loop (fun aq wq => ∃ (i : Nat), (i ≤ 20 ∧ ∀ j, j < i → keyL[j]? ≠ some l) ∧ KeepM 5 [4] a4 aq ∧ aq.eval (.tmp 4) = (.int .i64 ((i : Nat) : Int)) ∧ RowT wq g 9 (keyL.map Str) ∧ Below w0.heap.size w0 wq) (fun aq _ => 20 - (intOf (aq.eval (.tmp 4))).toNat) ⟨0, ⟨Nat.zero_le _, hno⟩, KeepM.refl _ _ _, e4, y, hB⟩ ?_
 rintro a5 w5 ⟨i, hk0, kk0, g4, qy, qB⟩
 replace e0 := kk0.ev e0 (by decide)
 replace e2 := kk0.ev e2 (by decide)
 replace e3 := kk0.ev e3 (by decide)
 replace hz := kk0.size.trans hz
 replace hd := kk0.defers.trans hd
 clear e4 y hB hS
 have e4 := g4
 have y := qy
 have hB := qB
 have hS := hB.size
 clear qy qB
 obtain ⟨hil, hall⟩ := hk0
 have e4s := e4
 refine wp_seq ?_
 refine wp_seq ?_
 refine seq_startL (l := [0, 1, 2, 3]) (by kernel_rfl) ?_
 refine seq_move 6 (v := (.int .i64 ((i : Nat) : Int))) rfl rfl rfl rfl e4 ?_
 refine seq_move 7 (v := (.slice (some ⟨g, 0, none⟩) 20 20)) rfl rfl rfl rfl ((ev_ne (by decide)).trans e3) ?_
 refine seq_valD 8 (v := (.int .i64 ((20 : Nat) : Int))) rfl rfl rfl (run_lenStr rfl (ev_same (by first | (rw [hz]; decide) | (simp only [size_put, hz]; decide)))) ?_
 refine seq_valD 9 (v := (.bool (decide (((i : Nat) : Int) < ((20 : Nat) : Int))))) rfl rfl rfl (run_ltI rfl ((ev_ne (by decide)).trans ((ev_ne (by decide)).trans (ev_same (by first | (rw [hz]; decide) | (simp only [size_put, hz]; decide))))) (ev_same (by first | (rw [hz]; decide) | (simp only [size_put, hz]; decide)))) ?_
 refine seq_nil ?_
 refine seq_out (((((KeepM.refl 5 [] a5).put (by decide)).put (by decide)).put (by decide)).put (by decide)) fun a6 k6 tr => ?_
 have f9 := tr 9 (.bool (decide (((i : Nat) : Int) < ((20 : Nat) : Int)))) (ev_same (by first | (rw [hz]; decide) | (simp only [size_put, hz]; decide)))
 clear tr
 replace e0 := k6.ev e0 (by decide)
 replace e2 := k6.ev e2 (by decide)
 replace e3 := k6.ev e3 (by decide)
 replace e4 := k6.ev e4 (by decide)
 replace hz := k6.size.trans hz
 replace hd := k6.defers.trans hd
 replace kk0 := kk0.trans (k6.mono (ys := [4]) (by decide))
 have e9 := f9
 clear f9
 by_cases hlti : i < 20
 ·rw [decide_eq_true (by omega)] at e9
  refine wp_cond_true e9 ?_
  refine wp_skip ?_
  refine wp_seq ?_
  refine wp_block ?_
  refine wp_seq ?_
  obtain ⟨q, hq⟩ : ∃ q, keyL[i]? = some q := ⟨_, List.getElem?_eq_getElem (by simp [keyL]; omega)⟩
  have hcell := y.addc (k := i) (v := Str q) (by rw [List.getElem?_map, hq]; rfl)
  by_cases hql : q = l
  ·refine seq_startL (l := [0, 1, 2, 3, 4, 5]) (by kernel_rfl) ?_
   refine seq_move 12 (v := (.slice (some ⟨g, 0, none⟩) 20 20)) rfl rfl rfl rfl e3 ?_
   refine seq_move 13 (v := (.int .i64 ((i : Nat) : Int))) rfl rfl rfl rfl ((ev_ne (by decide)).trans e4) ?_
   refine seq_valD 14 (v := (.pointer (some ((⟨g, 0, none⟩ : Addr).add i)))) rfl rfl rfl (run_ixStr (k := i) rfl ((ev_ne (by decide)).trans (ev_same (by first | (rw [hz]; decide) | (simp only [size_put, hz]; decide)))) (ev_same (by first | (rw [hz]; decide) | (simp only [size_put, hz]; decide))) hlti) ?_
   refine seq_valD 15 (v := (Str q)) rfl rfl rfl (run_ldStr rfl (ev_same (by first | (rw [hz]; decide) | (simp only [size_put, hz]; decide))) hcell) ?_
   refine seq_move 16 (v := (Str l)) rfl rfl rfl rfl ((ev_ne (by decide)).trans ((ev_ne (by decide)).trans ((ev_ne (by decide)).trans ((ev_ne (by decide)).trans e0)))) ?_
   refine seq_valD 17 (v := (.bool true)) rfl rfl rfl ((run_eqS rfl ((ev_ne (by decide)).trans (ev_same (by first | (rw [hz]; decide) | (simp only [size_put, hz]; decide)))) (ev_same (by first | (rw [hz]; decide) | (simp only [size_put, hz]; decide)))).trans (okB (c := true) (decide_eq_true hql))) ?_
   refine seq_nil ?_
   refine seq_out (((((((KeepM.refl 5 [] a6).put (by decide)).put (by decide)).put (by decide)).put (by decide)).put (by decide)).put (by decide)) fun a7 k7 tr => ?_
   have f17 := tr 17 (.bool true) (ev_same (by first | (rw [hz]; decide) | (simp only [size_put, hz]; decide)))
   clear tr
   replace e0 := k7.ev e0 (by decide)
   replace e2 := k7.ev e2 (by decide)
   replace e3 := k7.ev e3 (by decide)
   replace e4 := k7.ev e4 (by decide)
   replace hz := k7.size.trans hz
   replace hd := k7.defers.trans hd
   replace kk0 := kk0.trans (k7.mono (ys := [4]) (by decide))
   have e17 := f17
   clear f17
   refine wp_cond_true e17 ?_
   refine wp_seq ?_
   refine seq_startL (l := [0]) (by kernel_rfl) ?_
   refine seq_assign 2 (v := (.int .i64 2)) rfl rfl rfl rfl rfl ?_
   refine seq_nil ?_
   refine seq_out ((KeepM.refl 5 [2] a7).put (by decide)) fun a8 k8 tr => ?_
   have f2 := tr 2 (.int .i64 2) (ev_same (by first | (rw [hz]; decide) | (simp only [size_put, hz]; decide)))
   clear tr
   replace e0 := k8.ev e0 (by decide)
   replace e3 := k8.ev e3 (by decide)
   replace e4 := k8.ev e4 (by decide)
   replace hz := k8.size.trans hz
   replace hd := k8.defers.trans hd
   have e2 := f2
   clear f2
   refine wp_ret ?_
   exact post_slot rfl hd (get_of_int e2) ⟨(by rw [kind_yes (hql ▸ hq)]; rfl), hB⟩
  ·refine seq_startL (l := [0, 1, 2, 3, 4, 5]) (by kernel_rfl) ?_
   refine seq_move 12 (v := (.slice (some ⟨g, 0, none⟩) 20 20)) rfl rfl rfl rfl e3 ?_
   refine seq_move 13 (v := (.int .i64 ((i : Nat) : Int))) rfl rfl rfl rfl ((ev_ne (by decide)).trans e4) ?_
   refine seq_valD 14 (v := (.pointer (some ((⟨g, 0, none⟩ : Addr).add i)))) rfl rfl rfl (run_ixStr (k := i) rfl ((ev_ne (by decide)).trans (ev_same (by first | (rw [hz]; decide) | (simp only [size_put, hz]; decide)))) (ev_same (by first | (rw [hz]; decide) | (simp only [size_put, hz]; decide))) hlti) ?_
   refine seq_valD 15 (v := (Str q)) rfl rfl rfl (run_ldStr rfl (ev_same (by first | (rw [hz]; decide) | (simp only [size_put, hz]; decide))) hcell) ?_
   refine seq_move 16 (v := (Str l)) rfl rfl rfl rfl ((ev_ne (by decide)).trans ((ev_ne (by decide)).trans ((ev_ne (by decide)).trans ((ev_ne (by decide)).trans e0)))) ?_
   refine seq_valD 17 (v := (.bool false)) rfl rfl rfl ((run_eqS rfl ((ev_ne (by decide)).trans (ev_same (by first | (rw [hz]; decide) | (simp only [size_put, hz]; decide)))) (ev_same (by first | (rw [hz]; decide) | (simp only [size_put, hz]; decide)))).trans (okB (c := false) (decide_eq_false hql))) ?_
   refine seq_nil ?_
   refine seq_out (((((((KeepM.refl 5 [] a6).put (by decide)).put (by decide)).put (by decide)).put (by decide)).put (by decide)).put (by decide)) fun a9 k9 tr => ?_
   have f17 := tr 17 (.bool false) (ev_same (by first | (rw [hz]; decide) | (simp only [size_put, hz]; decide)))
   clear tr
   replace e0 := k9.ev e0 (by decide)
   replace e2 := k9.ev e2 (by decide)
   replace e3 := k9.ev e3 (by decide)
   replace e4 := k9.ev e4 (by decide)
   replace hz := k9.size.trans hz
   replace hd := k9.defers.trans hd
   replace kk0 := kk0.trans (k9.mono (ys := [4]) (by decide))
   have e17 := f17
   clear f17
   refine wp_cond_false e17 ?_
   refine wp_skip ?_
   refine seq_startL (l := [0, 1, 2]) (by kernel_rfl) ?_
   refine seq_move 10 (v := (.int .i64 ((i : Nat) : Int))) rfl rfl rfl rfl e4 ?_
   refine seq_valD 11 (v := (.int .i64 ((i + 1 : Nat) : Int))) rfl rfl rfl (run_incI rfl (ev_same (by first | (rw [hz]; decide) | (simp only [size_put, hz]; decide))) rfl (by omega)) ?_
   refine seq_assign 4 (v := (.int .i64 ((i + 1 : Nat) : Int))) rfl rfl rfl rfl (ev_same (by first | (rw [hz]; decide) | (simp only [size_put, hz]; decide))) ?_
   refine seq_nil ?_
   refine seq_out ((((KeepM.refl 5 [4] a9).put (by decide)).put (by decide)).put (by decide)) fun a10 k10 tr => ?_
   have f4 := tr 4 (.int .i64 ((i + 1 : Nat) : Int)) (ev_same (by first | (rw [hz]; decide) | (simp only [size_put, hz]; decide)))
   clear tr
   replace e0 := k10.ev e0 (by decide)
   replace e2 := k10.ev e2 (by decide)
   replace e3 := k10.ev e3 (by decide)
   replace hz := k10.size.trans hz
   replace hd := k10.defers.trans hd
   replace kk0 := kk0.trans (k10.mono (ys := [4]) (by decide))
   have e4 := f4
   clear f4
   refine ⟨⟨i + 1, ⟨by omega, fun j hj => ?_⟩, kk0, e4, y, hB⟩, ?_⟩
   ·by_cases e : j = i
    ·rw [e, hq]; exact fun h => hql (Option.some.inj h)
    ·exact hall j (by omega)
   ·rw [e4, e4s]; simp [intOf]; omega
 ·rw [decide_eq_false (by omega)] at e9
  refine wp_cond_false e9 ?_
  refine wp_exit ?_
  refine exit_here1 (id := 0) ?_
  refine wp_seq ?_
  refine seq_startL (l := [0]) (by kernel_rfl) ?_
  refine seq_assign 2 (v := (.int .i64 1)) rfl rfl rfl rfl rfl ?_
  refine seq_nil ?_
  refine seq_out ((KeepM.refl 5 [2] a6).put (by decide)) fun a11 k11 tr => ?_
  have f2 := tr 2 (.int .i64 1) (ev_same (by first | (rw [hz]; decide) | (simp only [size_put, hz]; decide)))
  clear tr
  replace e0 := k11.ev e0 (by decide)
  replace e3 := k11.ev e3 (by decide)
  replace e4 := k11.ev e4 (by decide)
  replace hz := k11.size.trans hz
  replace hd := k11.defers.trans hd
  have e2 := f2
  clear f2
  refine wp_ret ?_
  exact post_slot rfl hd (get_of_int e2) ⟨(by rw [kind_no (fun j hj => hall j (by omega))]; rfl), hB⟩
theorem en_ref_kind : Enters Tryd.prog 87 := enters_of Tryd.func87 (by kernel_rfl) rfl
/-- Does the byte at a place keep a text from being a word? -/
def badAt (i : Nat) (c : UInt8) : Bool := !isLetter c && ((((i : Nat) : Int) == 0) || (!isDigit c && (((c.toNat : Nat) : Int) != 95)))
/-- What Word answers. -/
def wordOf (l : List UInt8) : Nat × Bool := if ((List.range l.length).any (fun i => badAt i (l.getD i 0)) || l.isEmpty) = true then (0, false) else (kindOf l, true)
theorem word_bad {l : List UInt8} {i : Nat} {c : UInt8} (h : l[i]? = some c) (hb : badAt i c = true) : wordOf l = (0, false) := by
 unfold wordOf
 rw [if_pos ?_]
 rw [Bool.or_eq_true, List.any_eq_true]
 exact .inl ⟨i, by simpa using (List.getElem?_eq_some_iff.1 h).1, by rw [List.getD_eq_getElem?_getD, h]; exact hb⟩
theorem word_nil {l : List UInt8} (h : l = []) : wordOf l = (0, false) := by subst h; rfl
theorem word_yes {l : List UInt8} (h : ¬ l = []) (ho : ∀ i c, l[i]? = some c → badAt i c = false) : wordOf l = (kindOf l, true) := by
 unfold wordOf
 rw [if_neg ?_]
 rw [Bool.or_eq_true, List.any_eq_true]
 rintro (⟨i, h1, h2⟩ | h2)
 ·have hi : i < l.length := by simpa using h1
  have e : l[i]? = some (l.getD i 0) := by rw [List.getD_eq_getElem?_getD, List.getElem?_eq_getElem hi]; rfl
  rw [ho i _ e] at h2; cases h2
 ·exact h (by simpa using h2)
set_option maxRecDepth 100000 in
set_option maxHeartbeats 4000000 in
theorem ref_Word (l : List UInt8) (w0 : World) (hlen : l.length ≤ 9223372036854775806) : Calls Tryd.prog 72 #[Str l] w0 (Ret w0 (.tuple #[.int .i64 (((wordOf l).1 : Nat) : Int), .bool (wordOf l).2])) := by
 refine calls_of_wp Tryd.func72 rfl ?_
 obtain ⟨hz, e0⟩ := start_act1 37 ((Str l)) (by decide)
 have hd : ({ tmps := #[(Str l)] ++ Array.replicate (37 - 1) undef, defers := [] } : Act).defers = [] := rfl
 rw [show Tryd.f72.ntmps - (#[(Str l)] : Array Value).size = 37 - 1 from rfl]
 generalize ({ tmps := #[(Str l)] ++ Array.replicate (37 - 1) undef, defers := [] } : Act) = a0 at hz e0 hd ⊢
 have hB : Below w0.heap.size w0 w0 := Below.refl _ _
 have hS := hB.size
 refine wp_seq ?_
 refine seq_startL (l := [0, 1]) (by kernel_rfl) ?_
 refine seq_assign 2 (v := (.int .i64 0)) rfl rfl rfl rfl rfl ?_
 refine seq_assign 3 (v := (.bool false)) rfl rfl rfl rfl rfl ?_
 refine seq_nil ?_
 refine seq_out (((KeepM.refl 5 [2, 3] a0).put (by decide)).put (by decide)) fun a1 k1 tr => ?_
 have f2 := tr 2 (.int .i64 0) ((ev_ne (by decide)).trans (ev_same (by first | (rw [hz]; decide) | (simp only [size_put, hz]; decide))))
 have f3 := tr 3 (.bool false) (ev_same (by first | (rw [hz]; decide) | (simp only [size_put, hz]; decide)))
 clear tr
 replace e0 := k1.ev e0 (by decide)
 replace hz := k1.size.trans hz
 replace hd := k1.defers.trans hd
 have e2 := f2
 clear f2
 have e3 := f3
 clear f3
 refine wp_seq ?_
 refine wp_seq ?_
 refine seq_startL (l := [0]) (by kernel_rfl) ?_
 refine seq_assign 4 (v := (.int .i64 0)) rfl rfl rfl rfl rfl ?_
 refine seq_nil ?_
 refine seq_out ((KeepM.refl 5 [4] a1).put (by decide)) fun a2 k2 tr => ?_
 have f4 := tr 4 (.int .i64 0) (ev_same (by first | (rw [hz]; decide) | (simp only [size_put, hz]; decide)))
 clear tr
 replace e0 := k2.ev e0 (by decide)
 replace e2 := k2.ev e2 (by decide)
 replace e3 := k2.ev e3 (by decide)
 replace hz := k2.size.trans hz
 replace hd := k2.defers.trans hd
 have e4 := f4
 clear f4
 have hno : ∀ j c, j < 0 → l[j]? = some c → badAt j c = false := fun j c h => absurd h (Nat.not_lt_zero j)
 refine wp_block ?_
 refine wp_loop (fun aq wq => ∃ (i : Nat), (i ≤ l.length ∧ ∀ j c, j < i → l[j]? = some c → badAt j c = false) ∧ KeepM 5 [4] a2 aq ∧ aq.eval (.tmp 4) = (.int .i64 ((i : Nat) : Int)) ∧ Below w0.heap.size w0 wq) (fun aq _ => l.length - (intOf (aq.eval (.tmp 4))).toNat) ⟨0, ⟨Nat.zero_le _, hno⟩, KeepM.refl _ _ _, e4, hB⟩ ?_
 rintro a3 w3 ⟨i, hk0, kk0, g4, qB⟩
 replace e0 := kk0.ev e0 (by decide)
 replace e2 := kk0.ev e2 (by decide)
 replace e3 := kk0.ev e3 (by decide)
 replace hz := kk0.size.trans hz
 replace hd := kk0.defers.trans hd
 clear e4  hB hS
 have e4 := g4
 have hB := qB
 have hS := hB.size
 clear  qB
 obtain ⟨hil, hall⟩ := hk0
 have e4s := e4
 refine wp_seq ?_
 refine wp_seq ?_
 refine seq_startL (l := [0, 1, 2, 3]) (by kernel_rfl) ?_
 refine seq_move 5 (v := (.int .i64 ((i : Nat) : Int))) rfl rfl rfl rfl e4 ?_
 refine seq_move 6 (v := (Str l)) rfl rfl rfl rfl ((ev_ne (by decide)).trans e0) ?_
 refine seq_valD 7 (v := (.int .i64 ((l.length : Nat) : Int))) rfl rfl rfl (run_lenS rfl (ev_same (by first | (rw [hz]; decide) | (simp only [size_put, hz]; decide)))) ?_
 refine seq_valD 8 (v := (.bool (decide (((i : Nat) : Int) < ((l.length : Nat) : Int))))) rfl rfl rfl (run_ltI rfl ((ev_ne (by decide)).trans ((ev_ne (by decide)).trans (ev_same (by first | (rw [hz]; decide) | (simp only [size_put, hz]; decide))))) (ev_same (by first | (rw [hz]; decide) | (simp only [size_put, hz]; decide)))) ?_
 refine seq_nil ?_
 refine seq_out (((((KeepM.refl 5 [] a3).put (by decide)).put (by decide)).put (by decide)).put (by decide)) fun a4 k4 tr => ?_
 have f8 := tr 8 (.bool (decide (((i : Nat) : Int) < ((l.length : Nat) : Int)))) (ev_same (by first | (rw [hz]; decide) | (simp only [size_put, hz]; decide)))
 clear tr
 replace e0 := k4.ev e0 (by decide)
 replace e2 := k4.ev e2 (by decide)
 replace e3 := k4.ev e3 (by decide)
 replace e4 := k4.ev e4 (by decide)
 replace hz := k4.size.trans hz
 replace hd := k4.defers.trans hd
 replace kk0 := kk0.trans (k4.mono (ys := [4]) (by decide))
 have e8 := f8
 clear f8
 by_cases hlti : i < l.length
 ·rw [decide_eq_true (by omega)] at e8
  refine wp_cond_true e8 ?_
  refine wp_skip ?_
  refine wp_seq ?_
  refine wp_block ?_
  obtain ⟨c, hc⟩ : ∃ c, l[i]? = some c := ⟨_, List.getElem?_eq_getElem (by omega)⟩
  refine wp_seq ?_
  cases hc4_3 : (isLetter c : Bool) with
  | true =>
   refine region_cs (n := 22) [some (Str l), some (.int .i64 ((i : Nat) : Int)), some (.int .u8 ((c.toNat : Nat) : Int)), some (.bool true), some (.bool false), some (.bool false), some undef, some undef, some undef, some undef, some undef, some undef, some undef, some undef, some undef, some undef, some undef, some undef, some undef, some undef, some undef, some (.bool false)] w3 (by rw [hz]; kernel_rfl) (by kernel_rfl) (by kernel_rfl) (by kernel_rfl) ?_ fun L a5 w5 hL st => ?_
   ·refine ⟨⟨⟨⟨⟨⟨⟨⟨⟨⟨⟨⟨⟨⟨⟨⟨⟨⟨⟨⟨⟨⟨trivial, ?_⟩, ?_⟩, ?_⟩, ?_⟩, ?_⟩, ?_⟩, ?_⟩, ?_⟩, ?_⟩, ?_⟩, ?_⟩, ?_⟩, ?_⟩, ?_⟩, ?_⟩, ?_⟩, ?_⟩, ?_⟩, ?_⟩, ?_⟩, ?_⟩, ?_⟩
    ·intro oo aa ww LL hho hLL haft st; obtain rfl := Option.some.inj hho; exact payB_move st (want_none rfl) rfl (st.outV (by kernel_rfl) e0) rfl
    ·intro oo aa ww LL hho hLL haft st; obtain rfl := Option.some.inj hho; exact payB_move st (want_none rfl) rfl (st.outV (by kernel_rfl) e4) rfl
    ·intro oo aa ww LL hho hLL haft st; obtain rfl := Option.some.inj hho; exact payB st (want_none rfl) (fun ww hbw => run_idxS (k := i) rfl (st.argV (j := 0) (aft_of haft (by kernel_rfl)) rfl rfl) (st.argV (j := 1) (aft_of haft (by kernel_rfl)) rfl rfl) hc) rfl
    ·intro oo aa ww LL hho hLL haft st; obtain rfl := Option.some.inj hho; exact callB st (want_none rfl) en_ref_letter rfl (args_one (st.argV (j := 2) (aft_of haft (by kernel_rfl)) rfl rfl)) (callT hc4_3 (ref_letter c)) rfl
    ·intro oo aa ww LL hho hLL haft st; obtain rfl := Option.some.inj hho; exact payB st (want_none rfl) (fun ww hbw => run_not rfl (st.argV (j := 3) (aft_of haft (by kernel_rfl)) rfl rfl)) rfl
    ·intro oo aa ww LL hho hLL haft st; obtain rfl := Option.some.inj hho; exact payB_move st (want_none rfl) rfl (st.argV (j := 4) (aft_of haft (by kernel_rfl)) rfl rfl) rfl
    ·intro oo aa ww LL hho hLL haft st; obtain rfl := Option.some.inj hho; exact st.skipB haft rfl (by kernel_rfl) rfl (.inl rfl) rfl
    ·intro oo aa ww LL hho hLL haft st; obtain rfl := Option.some.inj hho; exact st.skipB haft rfl (by kernel_rfl) rfl (.inl rfl) rfl
    ·intro oo aa ww LL hho hLL haft st; obtain rfl := Option.some.inj hho; exact st.skipB haft rfl (by kernel_rfl) rfl (.inl rfl) rfl
    ·intro oo aa ww LL hho hLL haft st; obtain rfl := Option.some.inj hho; exact st.skipB haft rfl (by kernel_rfl) rfl (.inr rfl) rfl
    ·intro oo aa ww LL hho hLL haft st; obtain rfl := Option.some.inj hho; exact st.skipB haft rfl (by kernel_rfl) rfl (.inr rfl) rfl
    ·intro oo aa ww LL hho hLL haft st; obtain rfl := Option.some.inj hho; exact st.skipB haft rfl (by kernel_rfl) rfl (.inr rfl) rfl
    ·intro oo aa ww LL hho hLL haft st; obtain rfl := Option.some.inj hho; exact st.skipB haft rfl (by kernel_rfl) rfl (.inr rfl) rfl
    ·intro oo aa ww LL hho hLL haft st; obtain rfl := Option.some.inj hho; exact st.skipB haft rfl (by kernel_rfl) rfl (.inr rfl) rfl
    ·intro oo aa ww LL hho hLL haft st; obtain rfl := Option.some.inj hho; exact st.skipB haft rfl (by kernel_rfl) rfl (.inr rfl) rfl
    ·intro oo aa ww LL hho hLL haft st; obtain rfl := Option.some.inj hho; exact st.skipB haft rfl (by kernel_rfl) rfl (.inr rfl) rfl
    ·intro oo aa ww LL hho hLL haft st; obtain rfl := Option.some.inj hho; exact st.skipB haft rfl (by kernel_rfl) rfl (.inr rfl) rfl
    ·intro oo aa ww LL hho hLL haft st; obtain rfl := Option.some.inj hho; exact st.skipB haft rfl (by kernel_rfl) rfl (.inr rfl) rfl
    ·intro oo aa ww LL hho hLL haft st; obtain rfl := Option.some.inj hho; exact st.skipB haft rfl (by kernel_rfl) rfl (.inr rfl) rfl
    ·intro oo aa ww LL hho hLL haft st; obtain rfl := Option.some.inj hho; exact st.skipB haft rfl (by kernel_rfl) rfl (.inr rfl) rfl
    ·intro oo aa ww LL hho hLL haft st; obtain rfl := Option.some.inj hho; exact st.skipB haft rfl (by kernel_rfl) rfl (.inl rfl) rfl
    ·intro oo aa ww LL hho hLL haft st; obtain rfl := Option.some.inj hho; exact payB_pick st (want_none rfl) rfl (st.argV (j := 5) (aft_of haft (by kernel_rfl)) rfl rfl) rfl rfl
   have k5 : KeepM 5 [] a4 a5 := st.keepM (by kernel_rfl)
   have hb5 := st.g
   have e32 : a5.eval (.tmp 32) = (.bool false) := st.argV (j := 21) (hL 21 (by omega)) rfl rfl
   clear st hL L
   replace e0 := k5.ev e0 (by decide)
   replace e2 := k5.ev e2 (by decide)
   replace e3 := k5.ev e3 (by decide)
   replace e4 := k5.ev e4 (by decide)
   replace hz := k5.size.trans hz
   replace hd := k5.defers.trans hd
   replace kk0 := kk0.trans (k5.mono (ys := [4]) (by decide))
   replace hB := Below.next hB hb5
   replace hS := hB.size
   have hbad : badAt i c = false := by unfold badAt; rw [hc4_3]; try rfl
   refine wp_cond_false e32 ?_
   refine wp_skip ?_
   refine seq_startL (l := [0, 1, 2]) (by kernel_rfl) ?_
   refine seq_move 9 (v := (.int .i64 ((i : Nat) : Int))) rfl rfl rfl rfl e4 ?_
   refine seq_valD 10 (v := (.int .i64 ((i + 1 : Nat) : Int))) rfl rfl rfl (run_incI rfl (ev_same (by first | (rw [hz]; decide) | (simp only [size_put, hz]; decide))) rfl (by omega)) ?_
   refine seq_assign 4 (v := (.int .i64 ((i + 1 : Nat) : Int))) rfl rfl rfl rfl (ev_same (by first | (rw [hz]; decide) | (simp only [size_put, hz]; decide))) ?_
   refine seq_nil ?_
   refine seq_out ((((KeepM.refl 5 [4] a5).put (by decide)).put (by decide)).put (by decide)) fun a6 k6 tr => ?_
   have f4 := tr 4 (.int .i64 ((i + 1 : Nat) : Int)) (ev_same (by first | (rw [hz]; decide) | (simp only [size_put, hz]; decide)))
   clear tr
   replace e0 := k6.ev e0 (by decide)
   replace e2 := k6.ev e2 (by decide)
   replace e3 := k6.ev e3 (by decide)
   replace hz := k6.size.trans hz
   replace hd := k6.defers.trans hd
   replace kk0 := kk0.trans (k6.mono (ys := [4]) (by decide))
   have e4 := f4
   clear f4
   refine ⟨⟨i + 1, ⟨by omega, fun j d hj hd => ?_⟩, kk0, e4, hB⟩, ?_⟩
   ·by_cases e : j = i
    ·subst e; rw [hc] at hd; rw [← Option.some.inj hd]; exact hbad
    ·exact hall j d (by omega) hd
   ·rw [e4, e4s]; simp [intOf]; omega
  | false =>
   cases hc4_7 : ((((i : Nat) : Int) == 0) : Bool) with
   | true =>
    refine region_cs (n := 22) [some (Str l), some (.int .i64 ((i : Nat) : Int)), some (.int .u8 ((c.toNat : Nat) : Int)), some (.bool false), some (.bool true), some (.bool true), some (.int .i64 ((i : Nat) : Int)), some (.bool true), some (.bool true), some undef, some undef, some undef, some undef, some undef, some undef, some undef, some undef, some undef, some undef, some undef, some (.bool true), some (.bool true)] w3 (by rw [hz]; kernel_rfl) (by kernel_rfl) (by kernel_rfl) (by kernel_rfl) ?_ fun L a7 w7 hL st => ?_
    ·refine ⟨⟨⟨⟨⟨⟨⟨⟨⟨⟨⟨⟨⟨⟨⟨⟨⟨⟨⟨⟨⟨⟨trivial, ?_⟩, ?_⟩, ?_⟩, ?_⟩, ?_⟩, ?_⟩, ?_⟩, ?_⟩, ?_⟩, ?_⟩, ?_⟩, ?_⟩, ?_⟩, ?_⟩, ?_⟩, ?_⟩, ?_⟩, ?_⟩, ?_⟩, ?_⟩, ?_⟩, ?_⟩
     ·intro oo aa ww LL hho hLL haft st; obtain rfl := Option.some.inj hho; exact payB_move st (want_none rfl) rfl (st.outV (by kernel_rfl) e0) rfl
     ·intro oo aa ww LL hho hLL haft st; obtain rfl := Option.some.inj hho; exact payB_move st (want_none rfl) rfl (st.outV (by kernel_rfl) e4) rfl
     ·intro oo aa ww LL hho hLL haft st; obtain rfl := Option.some.inj hho; exact payB st (want_none rfl) (fun ww hbw => run_idxS (k := i) rfl (st.argV (j := 0) (aft_of haft (by kernel_rfl)) rfl rfl) (st.argV (j := 1) (aft_of haft (by kernel_rfl)) rfl rfl) hc) rfl
     ·intro oo aa ww LL hho hLL haft st; obtain rfl := Option.some.inj hho; exact callB st (want_none rfl) en_ref_letter rfl (args_one (st.argV (j := 2) (aft_of haft (by kernel_rfl)) rfl rfl)) (callT hc4_3 (ref_letter c)) rfl
     ·intro oo aa ww LL hho hLL haft st; obtain rfl := Option.some.inj hho; exact payB st (want_none rfl) (fun ww hbw => run_not rfl (st.argV (j := 3) (aft_of haft (by kernel_rfl)) rfl rfl)) rfl
     ·intro oo aa ww LL hho hLL haft st; obtain rfl := Option.some.inj hho; exact payB_move st (want_none rfl) rfl (st.argV (j := 4) (aft_of haft (by kernel_rfl)) rfl rfl) rfl
     ·intro oo aa ww LL hho hLL haft st; obtain rfl := Option.some.inj hho; exact payB_move st (st.wantV haft rfl (by kernel_rfl) rfl) rfl (st.outV (by kernel_rfl) e4) rfl
     ·intro oo aa ww LL hho hLL haft st; obtain rfl := Option.some.inj hho; exact payB st (st.wantV haft rfl (by kernel_rfl) rfl) (fun ww hbw => (run_eqI rfl (st.argV (j := 6) (aft_of haft (by kernel_rfl)) rfl rfl) rfl).trans (okB (c := true) hc4_7)) rfl
     ·intro oo aa ww LL hho hLL haft st; obtain rfl := Option.some.inj hho; exact payB_move st (st.wantV haft rfl (by kernel_rfl) rfl) rfl (st.argV (j := 7) (aft_of haft (by kernel_rfl)) rfl rfl) rfl
     ·intro oo aa ww LL hho hLL haft st; obtain rfl := Option.some.inj hho; exact st.skipB haft rfl (by kernel_rfl) rfl (.inl rfl) rfl
     ·intro oo aa ww LL hho hLL haft st; obtain rfl := Option.some.inj hho; exact st.skipB haft rfl (by kernel_rfl) rfl (.inl rfl) rfl
     ·intro oo aa ww LL hho hLL haft st; obtain rfl := Option.some.inj hho; exact st.skipB haft rfl (by kernel_rfl) rfl (.inl rfl) rfl
     ·intro oo aa ww LL hho hLL haft st; obtain rfl := Option.some.inj hho; exact st.skipB haft rfl (by kernel_rfl) rfl (.inl rfl) rfl
     ·intro oo aa ww LL hho hLL haft st; obtain rfl := Option.some.inj hho; exact st.skipB haft rfl (by kernel_rfl) rfl (.inl rfl) rfl
     ·intro oo aa ww LL hho hLL haft st; obtain rfl := Option.some.inj hho; exact st.skipB haft rfl (by kernel_rfl) rfl (.inl rfl) rfl
     ·intro oo aa ww LL hho hLL haft st; obtain rfl := Option.some.inj hho; exact st.skipB haft rfl (by kernel_rfl) rfl (.inr rfl) rfl
     ·intro oo aa ww LL hho hLL haft st; obtain rfl := Option.some.inj hho; exact st.skipB haft rfl (by kernel_rfl) rfl (.inr rfl) rfl
     ·intro oo aa ww LL hho hLL haft st; obtain rfl := Option.some.inj hho; exact st.skipB haft rfl (by kernel_rfl) rfl (.inr rfl) rfl
     ·intro oo aa ww LL hho hLL haft st; obtain rfl := Option.some.inj hho; exact st.skipB haft rfl (by kernel_rfl) rfl (.inr rfl) rfl
     ·intro oo aa ww LL hho hLL haft st; obtain rfl := Option.some.inj hho; exact st.skipB haft rfl (by kernel_rfl) rfl (.inl rfl) rfl
     ·intro oo aa ww LL hho hLL haft st; obtain rfl := Option.some.inj hho; exact payB_pick st (st.wantV haft rfl (by kernel_rfl) rfl) rfl (st.argV (j := 8) (aft_of haft (by kernel_rfl)) rfl rfl) rfl rfl
     ·intro oo aa ww LL hho hLL haft st; obtain rfl := Option.some.inj hho; exact payB_pick st (want_none rfl) rfl (st.argV (j := 5) (aft_of haft (by kernel_rfl)) rfl rfl) (st.argV (j := 20) (aft_of haft (by kernel_rfl)) rfl rfl) rfl
    have k7 : KeepM 5 [] a4 a7 := st.keepM (by kernel_rfl)
    have hb7 := st.g
    have e32 : a7.eval (.tmp 32) = (.bool true) := st.argV (j := 21) (hL 21 (by omega)) rfl rfl
    clear st hL L
    replace e0 := k7.ev e0 (by decide)
    replace e2 := k7.ev e2 (by decide)
    replace e3 := k7.ev e3 (by decide)
    replace e4 := k7.ev e4 (by decide)
    replace hz := k7.size.trans hz
    replace hd := k7.defers.trans hd
    replace kk0 := kk0.trans (k7.mono (ys := [4]) (by decide))
    replace hB := Below.next hB hb7
    replace hS := hB.size
    have hbad : badAt i c = true := by unfold badAt; rw [hc4_3, hc4_7]; try rfl
    refine wp_cond_true e32 ?_
    refine wp_seq ?_
    refine seq_startL (l := [0, 1]) (by kernel_rfl) ?_
    refine seq_assign 2 (v := (.int .i64 0)) rfl rfl rfl rfl rfl ?_
    refine seq_assign 3 (v := (.bool false)) rfl rfl rfl rfl rfl ?_
    refine seq_nil ?_
    refine seq_out (((KeepM.refl 5 [2, 3] a7).put (by decide)).put (by decide)) fun a8 k8 tr => ?_
    have f2 := tr 2 (.int .i64 0) ((ev_ne (by decide)).trans (ev_same (by first | (rw [hz]; decide) | (simp only [size_put, hz]; decide))))
    have f3 := tr 3 (.bool false) (ev_same (by first | (rw [hz]; decide) | (simp only [size_put, hz]; decide)))
    clear tr
    replace e0 := k8.ev e0 (by decide)
    replace e4 := k8.ev e4 (by decide)
    replace hz := k8.size.trans hz
    replace hd := k8.defers.trans hd
    have e2 := f2
    clear f2
    have e3 := f3
    clear f3
    refine wp_ret ?_
    exact post_two rfl hd e2 e3 ⟨(by rw [word_bad hc hbad]; try rfl), hB⟩
   | false =>
    cases hc4_12 : (isDigit c : Bool) with
    | true =>
     refine region_cs (n := 22) [some (Str l), some (.int .i64 ((i : Nat) : Int)), some (.int .u8 ((c.toNat : Nat) : Int)), some (.bool false), some (.bool true), some (.bool true), some (.int .i64 ((i : Nat) : Int)), some (.bool false), some (.bool false), some (Str l), some (.int .i64 ((i : Nat) : Int)), some (.int .u8 ((c.toNat : Nat) : Int)), some (.bool true), some (.bool false), some (.bool false), some undef, some undef, some undef, some undef, some (.bool false), some (.bool false), some (.bool false)] w3 (by rw [hz]; kernel_rfl) (by kernel_rfl) (by kernel_rfl) (by kernel_rfl) ?_ fun L a9 w9 hL st => ?_
     ·refine ⟨⟨⟨⟨⟨⟨⟨⟨⟨⟨⟨⟨⟨⟨⟨⟨⟨⟨⟨⟨⟨⟨trivial, ?_⟩, ?_⟩, ?_⟩, ?_⟩, ?_⟩, ?_⟩, ?_⟩, ?_⟩, ?_⟩, ?_⟩, ?_⟩, ?_⟩, ?_⟩, ?_⟩, ?_⟩, ?_⟩, ?_⟩, ?_⟩, ?_⟩, ?_⟩, ?_⟩, ?_⟩
      ·intro oo aa ww LL hho hLL haft st; obtain rfl := Option.some.inj hho; exact payB_move st (want_none rfl) rfl (st.outV (by kernel_rfl) e0) rfl
      ·intro oo aa ww LL hho hLL haft st; obtain rfl := Option.some.inj hho; exact payB_move st (want_none rfl) rfl (st.outV (by kernel_rfl) e4) rfl
      ·intro oo aa ww LL hho hLL haft st; obtain rfl := Option.some.inj hho; exact payB st (want_none rfl) (fun ww hbw => run_idxS (k := i) rfl (st.argV (j := 0) (aft_of haft (by kernel_rfl)) rfl rfl) (st.argV (j := 1) (aft_of haft (by kernel_rfl)) rfl rfl) hc) rfl
      ·intro oo aa ww LL hho hLL haft st; obtain rfl := Option.some.inj hho; exact callB st (want_none rfl) en_ref_letter rfl (args_one (st.argV (j := 2) (aft_of haft (by kernel_rfl)) rfl rfl)) (callT hc4_3 (ref_letter c)) rfl
      ·intro oo aa ww LL hho hLL haft st; obtain rfl := Option.some.inj hho; exact payB st (want_none rfl) (fun ww hbw => run_not rfl (st.argV (j := 3) (aft_of haft (by kernel_rfl)) rfl rfl)) rfl
      ·intro oo aa ww LL hho hLL haft st; obtain rfl := Option.some.inj hho; exact payB_move st (want_none rfl) rfl (st.argV (j := 4) (aft_of haft (by kernel_rfl)) rfl rfl) rfl
      ·intro oo aa ww LL hho hLL haft st; obtain rfl := Option.some.inj hho; exact payB_move st (st.wantV haft rfl (by kernel_rfl) rfl) rfl (st.outV (by kernel_rfl) e4) rfl
      ·intro oo aa ww LL hho hLL haft st; obtain rfl := Option.some.inj hho; exact payB st (st.wantV haft rfl (by kernel_rfl) rfl) (fun ww hbw => (run_eqI rfl (st.argV (j := 6) (aft_of haft (by kernel_rfl)) rfl rfl) rfl).trans (okB (c := false) hc4_7)) rfl
      ·intro oo aa ww LL hho hLL haft st; obtain rfl := Option.some.inj hho; exact payB_move st (st.wantV haft rfl (by kernel_rfl) rfl) rfl (st.argV (j := 7) (aft_of haft (by kernel_rfl)) rfl rfl) rfl
      ·intro oo aa ww LL hho hLL haft st; obtain rfl := Option.some.inj hho; exact payB_move st (st.wantV haft rfl (by kernel_rfl) rfl) rfl (st.outV (by kernel_rfl) e0) rfl
      ·intro oo aa ww LL hho hLL haft st; obtain rfl := Option.some.inj hho; exact payB_move st (st.wantV haft rfl (by kernel_rfl) rfl) rfl (st.outV (by kernel_rfl) e4) rfl
      ·intro oo aa ww LL hho hLL haft st; obtain rfl := Option.some.inj hho; exact payB st (st.wantV haft rfl (by kernel_rfl) rfl) (fun ww hbw => run_idxS (k := i) rfl (st.argV (j := 9) (aft_of haft (by kernel_rfl)) rfl rfl) (st.argV (j := 10) (aft_of haft (by kernel_rfl)) rfl rfl) hc) rfl
      ·intro oo aa ww LL hho hLL haft st; obtain rfl := Option.some.inj hho; exact callB st (st.wantV haft rfl (by kernel_rfl) rfl) en_ref_digit rfl (args_one (st.argV (j := 11) (aft_of haft (by kernel_rfl)) rfl rfl)) (callT hc4_12 (ref_digit c)) rfl
      ·intro oo aa ww LL hho hLL haft st; obtain rfl := Option.some.inj hho; exact payB st (st.wantV haft rfl (by kernel_rfl) rfl) (fun ww hbw => run_not rfl (st.argV (j := 12) (aft_of haft (by kernel_rfl)) rfl rfl)) rfl
      ·intro oo aa ww LL hho hLL haft st; obtain rfl := Option.some.inj hho; exact payB_move st (st.wantV haft rfl (by kernel_rfl) rfl) rfl (st.argV (j := 13) (aft_of haft (by kernel_rfl)) rfl rfl) rfl
      ·intro oo aa ww LL hho hLL haft st; obtain rfl := Option.some.inj hho; exact st.skipB haft rfl (by kernel_rfl) rfl (.inl rfl) rfl
      ·intro oo aa ww LL hho hLL haft st; obtain rfl := Option.some.inj hho; exact st.skipB haft rfl (by kernel_rfl) rfl (.inl rfl) rfl
      ·intro oo aa ww LL hho hLL haft st; obtain rfl := Option.some.inj hho; exact st.skipB haft rfl (by kernel_rfl) rfl (.inl rfl) rfl
      ·intro oo aa ww LL hho hLL haft st; obtain rfl := Option.some.inj hho; exact st.skipB haft rfl (by kernel_rfl) rfl (.inl rfl) rfl
      ·intro oo aa ww LL hho hLL haft st; obtain rfl := Option.some.inj hho; exact payB_pick st (st.wantV haft rfl (by kernel_rfl) rfl) rfl (st.argV (j := 14) (aft_of haft (by kernel_rfl)) rfl rfl) rfl rfl
      ·intro oo aa ww LL hho hLL haft st; obtain rfl := Option.some.inj hho; exact payB_pick st (st.wantV haft rfl (by kernel_rfl) rfl) rfl (st.argV (j := 8) (aft_of haft (by kernel_rfl)) rfl rfl) (st.argV (j := 19) (aft_of haft (by kernel_rfl)) rfl rfl) rfl
      ·intro oo aa ww LL hho hLL haft st; obtain rfl := Option.some.inj hho; exact payB_pick st (want_none rfl) rfl (st.argV (j := 5) (aft_of haft (by kernel_rfl)) rfl rfl) (st.argV (j := 20) (aft_of haft (by kernel_rfl)) rfl rfl) rfl
     have k9 : KeepM 5 [] a4 a9 := st.keepM (by kernel_rfl)
     have hb9 := st.g
     have e32 : a9.eval (.tmp 32) = (.bool false) := st.argV (j := 21) (hL 21 (by omega)) rfl rfl
     clear st hL L
     replace e0 := k9.ev e0 (by decide)
     replace e2 := k9.ev e2 (by decide)
     replace e3 := k9.ev e3 (by decide)
     replace e4 := k9.ev e4 (by decide)
     replace hz := k9.size.trans hz
     replace hd := k9.defers.trans hd
     replace kk0 := kk0.trans (k9.mono (ys := [4]) (by decide))
     replace hB := Below.next hB hb9
     replace hS := hB.size
     have hbad : badAt i c = false := by unfold badAt; rw [hc4_3, hc4_7, hc4_12]; try rfl
     refine wp_cond_false e32 ?_
     refine wp_skip ?_
     refine seq_startL (l := [0, 1, 2]) (by kernel_rfl) ?_
     refine seq_move 9 (v := (.int .i64 ((i : Nat) : Int))) rfl rfl rfl rfl e4 ?_
     refine seq_valD 10 (v := (.int .i64 ((i + 1 : Nat) : Int))) rfl rfl rfl (run_incI rfl (ev_same (by first | (rw [hz]; decide) | (simp only [size_put, hz]; decide))) rfl (by omega)) ?_
     refine seq_assign 4 (v := (.int .i64 ((i + 1 : Nat) : Int))) rfl rfl rfl rfl (ev_same (by first | (rw [hz]; decide) | (simp only [size_put, hz]; decide))) ?_
     refine seq_nil ?_
     refine seq_out ((((KeepM.refl 5 [4] a9).put (by decide)).put (by decide)).put (by decide)) fun a10 k10 tr => ?_
     have f4 := tr 4 (.int .i64 ((i + 1 : Nat) : Int)) (ev_same (by first | (rw [hz]; decide) | (simp only [size_put, hz]; decide)))
     clear tr
     replace e0 := k10.ev e0 (by decide)
     replace e2 := k10.ev e2 (by decide)
     replace e3 := k10.ev e3 (by decide)
     replace hz := k10.size.trans hz
     replace hd := k10.defers.trans hd
     replace kk0 := kk0.trans (k10.mono (ys := [4]) (by decide))
     have e4 := f4
     clear f4
     refine ⟨⟨i + 1, ⟨by omega, fun j d hj hd => ?_⟩, kk0, e4, hB⟩, ?_⟩
     ·by_cases e : j = i
      ·subst e; rw [hc] at hd; rw [← Option.some.inj hd]; exact hbad
      ·exact hall j d (by omega) hd
     ·rw [e4, e4s]; simp [intOf]; omega
    | false =>
     cases hc4_18 : ((((c.toNat : Nat) : Int) != 95) : Bool) with
     | true =>
      refine region_cs (n := 22) [some (Str l), some (.int .i64 ((i : Nat) : Int)), some (.int .u8 ((c.toNat : Nat) : Int)), some (.bool false), some (.bool true), some (.bool true), some (.int .i64 ((i : Nat) : Int)), some (.bool false), some (.bool false), some (Str l), some (.int .i64 ((i : Nat) : Int)), some (.int .u8 ((c.toNat : Nat) : Int)), some (.bool false), some (.bool true), some (.bool true), some (Str l), some (.int .i64 ((i : Nat) : Int)), some (.int .u8 ((c.toNat : Nat) : Int)), some (.bool true), some (.bool true), some (.bool true), some (.bool true)] w3 (by rw [hz]; kernel_rfl) (by kernel_rfl) (by kernel_rfl) (by kernel_rfl) ?_ fun L a11 w11 hL st => ?_
      ·refine ⟨⟨⟨⟨⟨⟨⟨⟨⟨⟨⟨⟨⟨⟨⟨⟨⟨⟨⟨⟨⟨⟨trivial, ?_⟩, ?_⟩, ?_⟩, ?_⟩, ?_⟩, ?_⟩, ?_⟩, ?_⟩, ?_⟩, ?_⟩, ?_⟩, ?_⟩, ?_⟩, ?_⟩, ?_⟩, ?_⟩, ?_⟩, ?_⟩, ?_⟩, ?_⟩, ?_⟩, ?_⟩
       ·intro oo aa ww LL hho hLL haft st; obtain rfl := Option.some.inj hho; exact payB_move st (want_none rfl) rfl (st.outV (by kernel_rfl) e0) rfl
       ·intro oo aa ww LL hho hLL haft st; obtain rfl := Option.some.inj hho; exact payB_move st (want_none rfl) rfl (st.outV (by kernel_rfl) e4) rfl
       ·intro oo aa ww LL hho hLL haft st; obtain rfl := Option.some.inj hho; exact payB st (want_none rfl) (fun ww hbw => run_idxS (k := i) rfl (st.argV (j := 0) (aft_of haft (by kernel_rfl)) rfl rfl) (st.argV (j := 1) (aft_of haft (by kernel_rfl)) rfl rfl) hc) rfl
       ·intro oo aa ww LL hho hLL haft st; obtain rfl := Option.some.inj hho; exact callB st (want_none rfl) en_ref_letter rfl (args_one (st.argV (j := 2) (aft_of haft (by kernel_rfl)) rfl rfl)) (callT hc4_3 (ref_letter c)) rfl
       ·intro oo aa ww LL hho hLL haft st; obtain rfl := Option.some.inj hho; exact payB st (want_none rfl) (fun ww hbw => run_not rfl (st.argV (j := 3) (aft_of haft (by kernel_rfl)) rfl rfl)) rfl
       ·intro oo aa ww LL hho hLL haft st; obtain rfl := Option.some.inj hho; exact payB_move st (want_none rfl) rfl (st.argV (j := 4) (aft_of haft (by kernel_rfl)) rfl rfl) rfl
       ·intro oo aa ww LL hho hLL haft st; obtain rfl := Option.some.inj hho; exact payB_move st (st.wantV haft rfl (by kernel_rfl) rfl) rfl (st.outV (by kernel_rfl) e4) rfl
       ·intro oo aa ww LL hho hLL haft st; obtain rfl := Option.some.inj hho; exact payB st (st.wantV haft rfl (by kernel_rfl) rfl) (fun ww hbw => (run_eqI rfl (st.argV (j := 6) (aft_of haft (by kernel_rfl)) rfl rfl) rfl).trans (okB (c := false) hc4_7)) rfl
       ·intro oo aa ww LL hho hLL haft st; obtain rfl := Option.some.inj hho; exact payB_move st (st.wantV haft rfl (by kernel_rfl) rfl) rfl (st.argV (j := 7) (aft_of haft (by kernel_rfl)) rfl rfl) rfl
       ·intro oo aa ww LL hho hLL haft st; obtain rfl := Option.some.inj hho; exact payB_move st (st.wantV haft rfl (by kernel_rfl) rfl) rfl (st.outV (by kernel_rfl) e0) rfl
       ·intro oo aa ww LL hho hLL haft st; obtain rfl := Option.some.inj hho; exact payB_move st (st.wantV haft rfl (by kernel_rfl) rfl) rfl (st.outV (by kernel_rfl) e4) rfl
       ·intro oo aa ww LL hho hLL haft st; obtain rfl := Option.some.inj hho; exact payB st (st.wantV haft rfl (by kernel_rfl) rfl) (fun ww hbw => run_idxS (k := i) rfl (st.argV (j := 9) (aft_of haft (by kernel_rfl)) rfl rfl) (st.argV (j := 10) (aft_of haft (by kernel_rfl)) rfl rfl) hc) rfl
       ·intro oo aa ww LL hho hLL haft st; obtain rfl := Option.some.inj hho; exact callB st (st.wantV haft rfl (by kernel_rfl) rfl) en_ref_digit rfl (args_one (st.argV (j := 11) (aft_of haft (by kernel_rfl)) rfl rfl)) (callT hc4_12 (ref_digit c)) rfl
       ·intro oo aa ww LL hho hLL haft st; obtain rfl := Option.some.inj hho; exact payB st (st.wantV haft rfl (by kernel_rfl) rfl) (fun ww hbw => run_not rfl (st.argV (j := 12) (aft_of haft (by kernel_rfl)) rfl rfl)) rfl
       ·intro oo aa ww LL hho hLL haft st; obtain rfl := Option.some.inj hho; exact payB_move st (st.wantV haft rfl (by kernel_rfl) rfl) rfl (st.argV (j := 13) (aft_of haft (by kernel_rfl)) rfl rfl) rfl
       ·intro oo aa ww LL hho hLL haft st; obtain rfl := Option.some.inj hho; exact payB_move st (st.wantV haft rfl (by kernel_rfl) rfl) rfl (st.outV (by kernel_rfl) e0) rfl
       ·intro oo aa ww LL hho hLL haft st; obtain rfl := Option.some.inj hho; exact payB_move st (st.wantV haft rfl (by kernel_rfl) rfl) rfl (st.outV (by kernel_rfl) e4) rfl
       ·intro oo aa ww LL hho hLL haft st; obtain rfl := Option.some.inj hho; exact payB st (st.wantV haft rfl (by kernel_rfl) rfl) (fun ww hbw => run_idxS (k := i) rfl (st.argV (j := 15) (aft_of haft (by kernel_rfl)) rfl rfl) (st.argV (j := 16) (aft_of haft (by kernel_rfl)) rfl rfl) hc) rfl
       ·intro oo aa ww LL hho hLL haft st; obtain rfl := Option.some.inj hho; exact payB st (st.wantV haft rfl (by kernel_rfl) rfl) (fun ww hbw => (run_ne8 rfl (st.argV (j := 17) (aft_of haft (by kernel_rfl)) rfl rfl) rfl).trans (okB (c := true) hc4_18)) rfl
       ·intro oo aa ww LL hho hLL haft st; obtain rfl := Option.some.inj hho; exact payB_pick st (st.wantV haft rfl (by kernel_rfl) rfl) rfl (st.argV (j := 14) (aft_of haft (by kernel_rfl)) rfl rfl) (st.argV (j := 18) (aft_of haft (by kernel_rfl)) rfl rfl) rfl
       ·intro oo aa ww LL hho hLL haft st; obtain rfl := Option.some.inj hho; exact payB_pick st (st.wantV haft rfl (by kernel_rfl) rfl) rfl (st.argV (j := 8) (aft_of haft (by kernel_rfl)) rfl rfl) (st.argV (j := 19) (aft_of haft (by kernel_rfl)) rfl rfl) rfl
       ·intro oo aa ww LL hho hLL haft st; obtain rfl := Option.some.inj hho; exact payB_pick st (want_none rfl) rfl (st.argV (j := 5) (aft_of haft (by kernel_rfl)) rfl rfl) (st.argV (j := 20) (aft_of haft (by kernel_rfl)) rfl rfl) rfl
      have k11 : KeepM 5 [] a4 a11 := st.keepM (by kernel_rfl)
      have hb11 := st.g
      have e32 : a11.eval (.tmp 32) = (.bool true) := st.argV (j := 21) (hL 21 (by omega)) rfl rfl
      clear st hL L
      replace e0 := k11.ev e0 (by decide)
      replace e2 := k11.ev e2 (by decide)
      replace e3 := k11.ev e3 (by decide)
      replace e4 := k11.ev e4 (by decide)
      replace hz := k11.size.trans hz
      replace hd := k11.defers.trans hd
      replace kk0 := kk0.trans (k11.mono (ys := [4]) (by decide))
      replace hB := Below.next hB hb11
      replace hS := hB.size
      have hbad : badAt i c = true := by unfold badAt; rw [hc4_3, hc4_7, hc4_12, hc4_18]; try rfl
      refine wp_cond_true e32 ?_
      refine wp_seq ?_
      refine seq_startL (l := [0, 1]) (by kernel_rfl) ?_
      refine seq_assign 2 (v := (.int .i64 0)) rfl rfl rfl rfl rfl ?_
      refine seq_assign 3 (v := (.bool false)) rfl rfl rfl rfl rfl ?_
      refine seq_nil ?_
      refine seq_out (((KeepM.refl 5 [2, 3] a11).put (by decide)).put (by decide)) fun a12 k12 tr => ?_
      have f2 := tr 2 (.int .i64 0) ((ev_ne (by decide)).trans (ev_same (by first | (rw [hz]; decide) | (simp only [size_put, hz]; decide))))
      have f3 := tr 3 (.bool false) (ev_same (by first | (rw [hz]; decide) | (simp only [size_put, hz]; decide)))
      clear tr
      replace e0 := k12.ev e0 (by decide)
      replace e4 := k12.ev e4 (by decide)
      replace hz := k12.size.trans hz
      replace hd := k12.defers.trans hd
      have e2 := f2
      clear f2
      have e3 := f3
      clear f3
      refine wp_ret ?_
      exact post_two rfl hd e2 e3 ⟨(by rw [word_bad hc hbad]; try rfl), hB⟩
     | false =>
      refine region_cs (n := 22) [some (Str l), some (.int .i64 ((i : Nat) : Int)), some (.int .u8 ((c.toNat : Nat) : Int)), some (.bool false), some (.bool true), some (.bool true), some (.int .i64 ((i : Nat) : Int)), some (.bool false), some (.bool false), some (Str l), some (.int .i64 ((i : Nat) : Int)), some (.int .u8 ((c.toNat : Nat) : Int)), some (.bool false), some (.bool true), some (.bool true), some (Str l), some (.int .i64 ((i : Nat) : Int)), some (.int .u8 ((c.toNat : Nat) : Int)), some (.bool false), some (.bool false), some (.bool false), some (.bool false)] w3 (by rw [hz]; kernel_rfl) (by kernel_rfl) (by kernel_rfl) (by kernel_rfl) ?_ fun L a13 w13 hL st => ?_
      ·refine ⟨⟨⟨⟨⟨⟨⟨⟨⟨⟨⟨⟨⟨⟨⟨⟨⟨⟨⟨⟨⟨⟨trivial, ?_⟩, ?_⟩, ?_⟩, ?_⟩, ?_⟩, ?_⟩, ?_⟩, ?_⟩, ?_⟩, ?_⟩, ?_⟩, ?_⟩, ?_⟩, ?_⟩, ?_⟩, ?_⟩, ?_⟩, ?_⟩, ?_⟩, ?_⟩, ?_⟩, ?_⟩
       ·intro oo aa ww LL hho hLL haft st; obtain rfl := Option.some.inj hho; exact payB_move st (want_none rfl) rfl (st.outV (by kernel_rfl) e0) rfl
       ·intro oo aa ww LL hho hLL haft st; obtain rfl := Option.some.inj hho; exact payB_move st (want_none rfl) rfl (st.outV (by kernel_rfl) e4) rfl
       ·intro oo aa ww LL hho hLL haft st; obtain rfl := Option.some.inj hho; exact payB st (want_none rfl) (fun ww hbw => run_idxS (k := i) rfl (st.argV (j := 0) (aft_of haft (by kernel_rfl)) rfl rfl) (st.argV (j := 1) (aft_of haft (by kernel_rfl)) rfl rfl) hc) rfl
       ·intro oo aa ww LL hho hLL haft st; obtain rfl := Option.some.inj hho; exact callB st (want_none rfl) en_ref_letter rfl (args_one (st.argV (j := 2) (aft_of haft (by kernel_rfl)) rfl rfl)) (callT hc4_3 (ref_letter c)) rfl
       ·intro oo aa ww LL hho hLL haft st; obtain rfl := Option.some.inj hho; exact payB st (want_none rfl) (fun ww hbw => run_not rfl (st.argV (j := 3) (aft_of haft (by kernel_rfl)) rfl rfl)) rfl
       ·intro oo aa ww LL hho hLL haft st; obtain rfl := Option.some.inj hho; exact payB_move st (want_none rfl) rfl (st.argV (j := 4) (aft_of haft (by kernel_rfl)) rfl rfl) rfl
       ·intro oo aa ww LL hho hLL haft st; obtain rfl := Option.some.inj hho; exact payB_move st (st.wantV haft rfl (by kernel_rfl) rfl) rfl (st.outV (by kernel_rfl) e4) rfl
       ·intro oo aa ww LL hho hLL haft st; obtain rfl := Option.some.inj hho; exact payB st (st.wantV haft rfl (by kernel_rfl) rfl) (fun ww hbw => (run_eqI rfl (st.argV (j := 6) (aft_of haft (by kernel_rfl)) rfl rfl) rfl).trans (okB (c := false) hc4_7)) rfl
       ·intro oo aa ww LL hho hLL haft st; obtain rfl := Option.some.inj hho; exact payB_move st (st.wantV haft rfl (by kernel_rfl) rfl) rfl (st.argV (j := 7) (aft_of haft (by kernel_rfl)) rfl rfl) rfl
       ·intro oo aa ww LL hho hLL haft st; obtain rfl := Option.some.inj hho; exact payB_move st (st.wantV haft rfl (by kernel_rfl) rfl) rfl (st.outV (by kernel_rfl) e0) rfl
       ·intro oo aa ww LL hho hLL haft st; obtain rfl := Option.some.inj hho; exact payB_move st (st.wantV haft rfl (by kernel_rfl) rfl) rfl (st.outV (by kernel_rfl) e4) rfl
       ·intro oo aa ww LL hho hLL haft st; obtain rfl := Option.some.inj hho; exact payB st (st.wantV haft rfl (by kernel_rfl) rfl) (fun ww hbw => run_idxS (k := i) rfl (st.argV (j := 9) (aft_of haft (by kernel_rfl)) rfl rfl) (st.argV (j := 10) (aft_of haft (by kernel_rfl)) rfl rfl) hc) rfl
       ·intro oo aa ww LL hho hLL haft st; obtain rfl := Option.some.inj hho; exact callB st (st.wantV haft rfl (by kernel_rfl) rfl) en_ref_digit rfl (args_one (st.argV (j := 11) (aft_of haft (by kernel_rfl)) rfl rfl)) (callT hc4_12 (ref_digit c)) rfl
       ·intro oo aa ww LL hho hLL haft st; obtain rfl := Option.some.inj hho; exact payB st (st.wantV haft rfl (by kernel_rfl) rfl) (fun ww hbw => run_not rfl (st.argV (j := 12) (aft_of haft (by kernel_rfl)) rfl rfl)) rfl
       ·intro oo aa ww LL hho hLL haft st; obtain rfl := Option.some.inj hho; exact payB_move st (st.wantV haft rfl (by kernel_rfl) rfl) rfl (st.argV (j := 13) (aft_of haft (by kernel_rfl)) rfl rfl) rfl
       ·intro oo aa ww LL hho hLL haft st; obtain rfl := Option.some.inj hho; exact payB_move st (st.wantV haft rfl (by kernel_rfl) rfl) rfl (st.outV (by kernel_rfl) e0) rfl
       ·intro oo aa ww LL hho hLL haft st; obtain rfl := Option.some.inj hho; exact payB_move st (st.wantV haft rfl (by kernel_rfl) rfl) rfl (st.outV (by kernel_rfl) e4) rfl
       ·intro oo aa ww LL hho hLL haft st; obtain rfl := Option.some.inj hho; exact payB st (st.wantV haft rfl (by kernel_rfl) rfl) (fun ww hbw => run_idxS (k := i) rfl (st.argV (j := 15) (aft_of haft (by kernel_rfl)) rfl rfl) (st.argV (j := 16) (aft_of haft (by kernel_rfl)) rfl rfl) hc) rfl
       ·intro oo aa ww LL hho hLL haft st; obtain rfl := Option.some.inj hho; exact payB st (st.wantV haft rfl (by kernel_rfl) rfl) (fun ww hbw => (run_ne8 rfl (st.argV (j := 17) (aft_of haft (by kernel_rfl)) rfl rfl) rfl).trans (okB (c := false) hc4_18)) rfl
       ·intro oo aa ww LL hho hLL haft st; obtain rfl := Option.some.inj hho; exact payB_pick st (st.wantV haft rfl (by kernel_rfl) rfl) rfl (st.argV (j := 14) (aft_of haft (by kernel_rfl)) rfl rfl) (st.argV (j := 18) (aft_of haft (by kernel_rfl)) rfl rfl) rfl
       ·intro oo aa ww LL hho hLL haft st; obtain rfl := Option.some.inj hho; exact payB_pick st (st.wantV haft rfl (by kernel_rfl) rfl) rfl (st.argV (j := 8) (aft_of haft (by kernel_rfl)) rfl rfl) (st.argV (j := 19) (aft_of haft (by kernel_rfl)) rfl rfl) rfl
       ·intro oo aa ww LL hho hLL haft st; obtain rfl := Option.some.inj hho; exact payB_pick st (want_none rfl) rfl (st.argV (j := 5) (aft_of haft (by kernel_rfl)) rfl rfl) (st.argV (j := 20) (aft_of haft (by kernel_rfl)) rfl rfl) rfl
      have k13 : KeepM 5 [] a4 a13 := st.keepM (by kernel_rfl)
      have hb13 := st.g
      have e32 : a13.eval (.tmp 32) = (.bool false) := st.argV (j := 21) (hL 21 (by omega)) rfl rfl
      clear st hL L
      replace e0 := k13.ev e0 (by decide)
      replace e2 := k13.ev e2 (by decide)
      replace e3 := k13.ev e3 (by decide)
      replace e4 := k13.ev e4 (by decide)
      replace hz := k13.size.trans hz
      replace hd := k13.defers.trans hd
      replace kk0 := kk0.trans (k13.mono (ys := [4]) (by decide))
      replace hB := Below.next hB hb13
      replace hS := hB.size
      have hbad : badAt i c = false := by unfold badAt; rw [hc4_3, hc4_7, hc4_12, hc4_18]; try rfl
      refine wp_cond_false e32 ?_
      refine wp_skip ?_
      refine seq_startL (l := [0, 1, 2]) (by kernel_rfl) ?_
      refine seq_move 9 (v := (.int .i64 ((i : Nat) : Int))) rfl rfl rfl rfl e4 ?_
      refine seq_valD 10 (v := (.int .i64 ((i + 1 : Nat) : Int))) rfl rfl rfl (run_incI rfl (ev_same (by first | (rw [hz]; decide) | (simp only [size_put, hz]; decide))) rfl (by omega)) ?_
      refine seq_assign 4 (v := (.int .i64 ((i + 1 : Nat) : Int))) rfl rfl rfl rfl (ev_same (by first | (rw [hz]; decide) | (simp only [size_put, hz]; decide))) ?_
      refine seq_nil ?_
      refine seq_out ((((KeepM.refl 5 [4] a13).put (by decide)).put (by decide)).put (by decide)) fun a14 k14 tr => ?_
      have f4 := tr 4 (.int .i64 ((i + 1 : Nat) : Int)) (ev_same (by first | (rw [hz]; decide) | (simp only [size_put, hz]; decide)))
      clear tr
      replace e0 := k14.ev e0 (by decide)
      replace e2 := k14.ev e2 (by decide)
      replace e3 := k14.ev e3 (by decide)
      replace hz := k14.size.trans hz
      replace hd := k14.defers.trans hd
      replace kk0 := kk0.trans (k14.mono (ys := [4]) (by decide))
      have e4 := f4
      clear f4
      refine ⟨⟨i + 1, ⟨by omega, fun j d hj hd => ?_⟩, kk0, e4, hB⟩, ?_⟩
      ·by_cases e : j = i
       ·subst e; rw [hc] at hd; rw [← Option.some.inj hd]; exact hbad
       ·exact hall j d (by omega) hd
      ·rw [e4, e4s]; simp [intOf]; omega
 ·rw [decide_eq_false (by omega)] at e8
  refine wp_cond_false e8 ?_
  refine wp_exit ?_
  refine exit_here1 (id := 0) ?_
  have hok : ∀ (j : Nat) (c : UInt8), l[j]? = some c → badAt j c = false := fun j c hj => hall j c (by have := (List.getElem?_eq_some_iff.1 hj).1; omega) hj
  refine wp_seq ?_
  refine wp_seq ?_
  by_cases hl0 : l = []
  ·refine seq_startL (l := [0, 1]) (by kernel_rfl) ?_
   refine seq_move 33 (v := (Str l)) rfl rfl rfl rfl e0 ?_
   refine seq_valD 34 (v := (.bool true)) rfl rfl rfl ((run_eqS rfl (ev_same (by first | (rw [hz]; decide) | (simp only [size_put, hz]; decide))) rfl).trans (okB (c := true) (decide_eq_true hl0))) ?_
   refine seq_nil ?_
   refine seq_out (((KeepM.refl 5 [] a4).put (by decide)).put (by decide)) fun a15 k15 tr => ?_
   have f34 := tr 34 (.bool true) (ev_same (by first | (rw [hz]; decide) | (simp only [size_put, hz]; decide)))
   clear tr
   replace e0 := k15.ev e0 (by decide)
   replace e2 := k15.ev e2 (by decide)
   replace e3 := k15.ev e3 (by decide)
   replace e4 := k15.ev e4 (by decide)
   replace hz := k15.size.trans hz
   replace hd := k15.defers.trans hd
   have e34 := f34
   clear f34
   refine wp_cond_true e34 ?_
   refine wp_seq ?_
   refine seq_startL (l := [0, 1]) (by kernel_rfl) ?_
   refine seq_assign 2 (v := (.int .i64 0)) rfl rfl rfl rfl rfl ?_
   refine seq_assign 3 (v := (.bool false)) rfl rfl rfl rfl rfl ?_
   refine seq_nil ?_
   refine seq_out (((KeepM.refl 5 [2, 3] a15).put (by decide)).put (by decide)) fun a16 k16 tr => ?_
   have f2 := tr 2 (.int .i64 0) ((ev_ne (by decide)).trans (ev_same (by first | (rw [hz]; decide) | (simp only [size_put, hz]; decide))))
   have f3 := tr 3 (.bool false) (ev_same (by first | (rw [hz]; decide) | (simp only [size_put, hz]; decide)))
   clear tr
   replace e0 := k16.ev e0 (by decide)
   replace e4 := k16.ev e4 (by decide)
   replace hz := k16.size.trans hz
   replace hd := k16.defers.trans hd
   have e2 := f2
   clear f2
   have e3 := f3
   clear f3
   refine wp_ret ?_
   exact post_two rfl hd e2 e3 ⟨(by rw [word_nil hl0]; try rfl), hB⟩
  ·refine seq_startL (l := [0, 1]) (by kernel_rfl) ?_
   refine seq_move 33 (v := (Str l)) rfl rfl rfl rfl e0 ?_
   refine seq_valD 34 (v := (.bool false)) rfl rfl rfl ((run_eqS rfl (ev_same (by first | (rw [hz]; decide) | (simp only [size_put, hz]; decide))) rfl).trans (okB (c := false) (decide_eq_false hl0))) ?_
   refine seq_nil ?_
   refine seq_out (((KeepM.refl 5 [] a4).put (by decide)).put (by decide)) fun a17 k17 tr => ?_
   have f34 := tr 34 (.bool false) (ev_same (by first | (rw [hz]; decide) | (simp only [size_put, hz]; decide)))
   clear tr
   replace e0 := k17.ev e0 (by decide)
   replace e2 := k17.ev e2 (by decide)
   replace e3 := k17.ev e3 (by decide)
   replace e4 := k17.ev e4 (by decide)
   replace hz := k17.size.trans hz
   replace hd := k17.defers.trans hd
   have e34 := f34
   clear f34
   refine wp_cond_false e34 ?_
   refine wp_skip ?_
   refine wp_seq ?_
   refine seq_startL (l := [0, 1, 2, 3]) (by kernel_rfl) ?_
   refine seq_move 35 (v := (Str l)) rfl rfl rfl rfl e0 ?_
   refine seq_callD 36 rfl rfl rfl en_ref_kind rfl (args_one (ev_same (by first | (rw [hz]; decide) | (simp only [size_put, hz]; decide)))) ((ref_kind l w3).mono ?_)
   rintro e w18 ⟨rfl, hb18⟩
   refine ⟨_, rfl, ?_⟩
   replace hB := Below.next hB hb18
   replace hS := hB.size
   refine seq_assign 2 (v := (.int .i64 (((kindOf l) : Nat) : Int))) rfl rfl rfl rfl (ev_same (by first | (rw [hz]; decide) | (simp only [size_put, hz]; decide))) ?_
   refine seq_assign 3 (v := (.bool true)) rfl rfl rfl rfl rfl ?_
   refine seq_nil ?_
   refine seq_out (((((KeepM.refl 5 [2, 3] a17).put (by decide)).put (by decide)).put (by decide)).put (by decide)) fun a19 k19 tr => ?_
   have f2 := tr 2 (.int .i64 (((kindOf l) : Nat) : Int)) ((ev_ne (by decide)).trans (ev_same (by first | (rw [hz]; decide) | (simp only [size_put, hz]; decide))))
   have f3 := tr 3 (.bool true) (ev_same (by first | (rw [hz]; decide) | (simp only [size_put, hz]; decide)))
   clear tr
   replace e0 := k19.ev e0 (by decide)
   replace e4 := k19.ev e4 (by decide)
   replace hz := k19.size.trans hz
   replace hd := k19.defers.trans hd
   have e2 := f2
   clear f2
   have e3 := f3
   clear f3
   refine wp_ret ?_
   exact post_two rfl hd e2 e3 ⟨(by rw [word_yes hl0 hok]; try rfl), hB⟩
end Go.Proofs.YtmfiiapmkidmkaaDoor
