/-
  The document's answers for layer 2: letters, digits, blanks.
-/
import Derived.Test.YtbcfggdifljacaaDoorStr
namespace Go.Proofs.YtbcfggdifljacaaDoor
open Go Go.RowKit

def isLetter (c : UInt8) : Bool := (decide ((97 : Int) ≤ ((c.toNat : Nat) : Int)) && decide (((c.toNat : Nat) : Int) ≤ 122)) || (decide ((65 : Int) ≤ ((c.toNat : Nat) : Int)) && decide (((c.toNat : Nat) : Int) ≤ 90))
def isDigit (c : UInt8) : Bool := decide ((48 : Int) ≤ ((c.toNat : Nat) : Int)) && decide (((c.toNat : Nat) : Int) ≤ 57)
def isBlank (c : UInt8) : Bool := (((c.toNat : Nat) : Int) == 32) || (((c.toNat : Nat) : Int) == 9) || (((c.toNat : Nat) : Int) == 10) || (((c.toNat : Nat) : Int) == 13)
set_option maxRecDepth 100000 in
theorem ref_letter (c : UInt8) (w0 : World) : Calls Tryd.prog 28 #[.int .u8 ((c.toNat : Nat) : Int)] w0 (Ret w0 (.bool (isLetter c))) := by
  refine calls_of_wp Tryd.func28 rfl ?_
  obtain ⟨hz, e0⟩ := start_act1 17 ((.int .u8 ((c.toNat : Nat) : Int))) (by decide)
  have hd : ({ tmps := #[(.int .u8 ((c.toNat : Nat) : Int))] ++ Array.replicate (17 - 1) undef, defers := [] } : Act).defers = [] := rfl
  rw [show Tryd.f28.ntmps - (#[(.int .u8 ((c.toNat : Nat) : Int))] : Array Value).size = 17 - 1 from rfl]
  generalize ({ tmps := #[(.int .u8 ((c.toNat : Nat) : Int))] ++ Array.replicate (17 - 1) undef, defers := [] } : Act) = a0 at hz e0 hd ⊢
  have hB : Below w0.heap.size w0 w0 := Below.refl _ _
  have hS := hB.size
  refine wp_seq ?_
  refine seq_startL (l := [0]) (by kernel_rfl) ?_
  refine seq_assign 2 (v := (.bool false)) rfl rfl rfl rfl rfl ?_
  refine seq_nil ?_
  refine seq_out ((KeepM.refl 3 [2] a0).put (by decide)) fun a1 k1 tr => ?_
  have f2 := tr 2 (.bool false) (ev_same (by first | (rw [hz]; decide) | (simp only [size_put, hz]; decide)))
  clear tr
  replace e0 := k1.ev e0 (by decide)
  replace hz := k1.size.trans hz
  replace hd := k1.defers.trans hd
  have e2 := f2
  clear f2
  refine wp_seq ?_
  cases hc1_1 : (decide ((97 : Int) ≤ ((c.toNat : Nat) : Int)) : Bool) with
  | true =>
    cases hc1_4 : (decide ((((c.toNat : Nat) : Int) : Int) ≤ 122) : Bool) with
    | true =>
      have hlast : lastOk (regOps Tryd.f28 1) 15 = true := by kernel_rfl
      refine region_ws (n := 15) [some (.int .u8 ((c.toNat : Nat) : Int)), some (.bool true), some (.bool true), some (.int .u8 ((c.toNat : Nat) : Int)), some (.bool true), some (.bool true), some (.bool true), some undef, some undef, some undef, some undef, some undef, some undef, some (.bool true), some (.bool true)] 15 w0 w0 (by rw [hz]; kernel_rfl) (by kernel_rfl) (by kernel_rfl) (by kernel_rfl) ?_ fun L a2 w2 hL st => ?_
      · refine ⟨⟨⟨⟨⟨⟨⟨⟨⟨⟨⟨⟨⟨⟨⟨trivial, ?_⟩, ?_⟩, ?_⟩, ?_⟩, ?_⟩, ?_⟩, ?_⟩, ?_⟩, ?_⟩, ?_⟩, ?_⟩, ?_⟩, ?_⟩, ?_⟩, ?_⟩
        · intro oo aa ww LL hho hLL haft st; obtain rfl := Option.some.inj hho; exact payW_move st hlast hLL (by decide) (want_none rfl) rfl (st.outV (by kernel_rfl) e0) rfl
        · intro oo aa ww LL hho hLL haft st; obtain rfl := Option.some.inj hho; exact payW st hlast hLL (by decide) (want_none rfl) ((run_ge8 rfl (st.argV (j := 0) (aft_of haft (by kernel_rfl)) rfl rfl) rfl).trans (okB (c := true) hc1_1)) rfl
        · intro oo aa ww LL hho hLL haft st; obtain rfl := Option.some.inj hho; exact payW_move st hlast hLL (by decide) (want_none rfl) rfl (st.argV (j := 1) (aft_of haft (by kernel_rfl)) rfl rfl) rfl
        · intro oo aa ww LL hho hLL haft st; obtain rfl := Option.some.inj hho; exact payW_move st hlast hLL (by decide) (st.wantV haft rfl (by kernel_rfl) rfl) rfl (st.outV (by kernel_rfl) e0) rfl
        · intro oo aa ww LL hho hLL haft st; obtain rfl := Option.some.inj hho; exact payW st hlast hLL (by decide) (st.wantV haft rfl (by kernel_rfl) rfl) ((run_le8 rfl (st.argV (j := 3) (aft_of haft (by kernel_rfl)) rfl rfl) rfl).trans (okB (c := true) hc1_4)) rfl
        · intro oo aa ww LL hho hLL haft st; obtain rfl := Option.some.inj hho; exact payW_pick st hlast hLL (by decide) (want_none rfl) rfl (st.argV (j := 2) (aft_of haft (by kernel_rfl)) rfl rfl) (st.argV (j := 4) (aft_of haft (by kernel_rfl)) rfl rfl) rfl
        · intro oo aa ww LL hho hLL haft st; obtain rfl := Option.some.inj hho; exact payW_move st hlast hLL (by decide) (want_none rfl) rfl (st.argV (j := 5) (aft_of haft (by kernel_rfl)) rfl rfl) rfl
        · intro oo aa ww LL hho hLL haft st; obtain rfl := Option.some.inj hho; exact st.skipW hlast hLL (by decide) haft rfl (by kernel_rfl) rfl (.inl rfl) rfl
        · intro oo aa ww LL hho hLL haft st; obtain rfl := Option.some.inj hho; exact st.skipW hlast hLL (by decide) haft rfl (by kernel_rfl) rfl (.inl rfl) rfl
        · intro oo aa ww LL hho hLL haft st; obtain rfl := Option.some.inj hho; exact st.skipW hlast hLL (by decide) haft rfl (by kernel_rfl) rfl (.inl rfl) rfl
        · intro oo aa ww LL hho hLL haft st; obtain rfl := Option.some.inj hho; exact st.skipW hlast hLL (by decide) haft rfl (by kernel_rfl) rfl (.inr rfl) rfl
        · intro oo aa ww LL hho hLL haft st; obtain rfl := Option.some.inj hho; exact st.skipW hlast hLL (by decide) haft rfl (by kernel_rfl) rfl (.inr rfl) rfl
        · intro oo aa ww LL hho hLL haft st; obtain rfl := Option.some.inj hho; exact st.skipW hlast hLL (by decide) haft rfl (by kernel_rfl) rfl (.inl rfl) rfl
        · intro oo aa ww LL hho hLL haft st; obtain rfl := Option.some.inj hho; exact payW_pick st hlast hLL (by decide) (want_none rfl) rfl (st.argV (j := 6) (aft_of haft (by kernel_rfl)) rfl rfl) rfl rfl
        · intro oo aa ww LL hho hLL haft st; obtain rfl := Option.some.inj hho; exact payW st hlast hLL (by decide) (want_none rfl) (run_assignV rfl (st.argV (j := 13) (aft_of haft (by kernel_rfl)) rfl rfl)) rfl
      clear hlast
      rw [st.end1 (Nat.le_of_eq (by kernel_rfl))]
      have k2 : KeepM 3 [2] a1 a2 := st.keepM (by kernel_rfl)
      have e2 : a2.eval (.tmp 2) = (.bool true) := st.argV (j := 14) (hL 14 (by omega)) rfl rfl
      clear st hL L
      replace e0 := k2.ev e0 (by decide)
      replace hz := k2.size.trans hz
      replace hd := k2.defers.trans hd
      refine wp_ret ?_
      exact post_slot rfl hd (get_of_bool e2) (Ret.b (by unfold isLetter; rw [hc1_1, hc1_4]; try rfl) hB)
    | false =>
      cases hc1_8 : (decide ((65 : Int) ≤ ((c.toNat : Nat) : Int)) : Bool) with
      | true =>
        cases hc1_11 : (decide ((((c.toNat : Nat) : Int) : Int) ≤ 90) : Bool) with
        | true =>
          have hlast : lastOk (regOps Tryd.f28 1) 15 = true := by kernel_rfl
          refine region_ws (n := 15) [some (.int .u8 ((c.toNat : Nat) : Int)), some (.bool true), some (.bool true), some (.int .u8 ((c.toNat : Nat) : Int)), some (.bool false), some (.bool false), some (.bool false), some (.int .u8 ((c.toNat : Nat) : Int)), some (.bool true), some (.bool true), some (.int .u8 ((c.toNat : Nat) : Int)), some (.bool true), some (.bool true), some (.bool true), some (.bool true)] 15 w0 w0 (by rw [hz]; kernel_rfl) (by kernel_rfl) (by kernel_rfl) (by kernel_rfl) ?_ fun L a3 w3 hL st => ?_
          · refine ⟨⟨⟨⟨⟨⟨⟨⟨⟨⟨⟨⟨⟨⟨⟨trivial, ?_⟩, ?_⟩, ?_⟩, ?_⟩, ?_⟩, ?_⟩, ?_⟩, ?_⟩, ?_⟩, ?_⟩, ?_⟩, ?_⟩, ?_⟩, ?_⟩, ?_⟩
            · intro oo aa ww LL hho hLL haft st; obtain rfl := Option.some.inj hho; exact payW_move st hlast hLL (by decide) (want_none rfl) rfl (st.outV (by kernel_rfl) e0) rfl
            · intro oo aa ww LL hho hLL haft st; obtain rfl := Option.some.inj hho; exact payW st hlast hLL (by decide) (want_none rfl) ((run_ge8 rfl (st.argV (j := 0) (aft_of haft (by kernel_rfl)) rfl rfl) rfl).trans (okB (c := true) hc1_1)) rfl
            · intro oo aa ww LL hho hLL haft st; obtain rfl := Option.some.inj hho; exact payW_move st hlast hLL (by decide) (want_none rfl) rfl (st.argV (j := 1) (aft_of haft (by kernel_rfl)) rfl rfl) rfl
            · intro oo aa ww LL hho hLL haft st; obtain rfl := Option.some.inj hho; exact payW_move st hlast hLL (by decide) (st.wantV haft rfl (by kernel_rfl) rfl) rfl (st.outV (by kernel_rfl) e0) rfl
            · intro oo aa ww LL hho hLL haft st; obtain rfl := Option.some.inj hho; exact payW st hlast hLL (by decide) (st.wantV haft rfl (by kernel_rfl) rfl) ((run_le8 rfl (st.argV (j := 3) (aft_of haft (by kernel_rfl)) rfl rfl) rfl).trans (okB (c := false) hc1_4)) rfl
            · intro oo aa ww LL hho hLL haft st; obtain rfl := Option.some.inj hho; exact payW_pick st hlast hLL (by decide) (want_none rfl) rfl (st.argV (j := 2) (aft_of haft (by kernel_rfl)) rfl rfl) (st.argV (j := 4) (aft_of haft (by kernel_rfl)) rfl rfl) rfl
            · intro oo aa ww LL hho hLL haft st; obtain rfl := Option.some.inj hho; exact payW_move st hlast hLL (by decide) (want_none rfl) rfl (st.argV (j := 5) (aft_of haft (by kernel_rfl)) rfl rfl) rfl
            · intro oo aa ww LL hho hLL haft st; obtain rfl := Option.some.inj hho; exact payW_move st hlast hLL (by decide) (st.wantV haft rfl (by kernel_rfl) rfl) rfl (st.outV (by kernel_rfl) e0) rfl
            · intro oo aa ww LL hho hLL haft st; obtain rfl := Option.some.inj hho; exact payW st hlast hLL (by decide) (st.wantV haft rfl (by kernel_rfl) rfl) ((run_ge8 rfl (st.argV (j := 7) (aft_of haft (by kernel_rfl)) rfl rfl) rfl).trans (okB (c := true) hc1_8)) rfl
            · intro oo aa ww LL hho hLL haft st; obtain rfl := Option.some.inj hho; exact payW_move st hlast hLL (by decide) (st.wantV haft rfl (by kernel_rfl) rfl) rfl (st.argV (j := 8) (aft_of haft (by kernel_rfl)) rfl rfl) rfl
            · intro oo aa ww LL hho hLL haft st; obtain rfl := Option.some.inj hho; exact payW_move st hlast hLL (by decide) (st.wantV haft rfl (by kernel_rfl) rfl) rfl (st.outV (by kernel_rfl) e0) rfl
            · intro oo aa ww LL hho hLL haft st; obtain rfl := Option.some.inj hho; exact payW st hlast hLL (by decide) (st.wantV haft rfl (by kernel_rfl) rfl) ((run_le8 rfl (st.argV (j := 10) (aft_of haft (by kernel_rfl)) rfl rfl) rfl).trans (okB (c := true) hc1_11)) rfl
            · intro oo aa ww LL hho hLL haft st; obtain rfl := Option.some.inj hho; exact payW_pick st hlast hLL (by decide) (st.wantV haft rfl (by kernel_rfl) rfl) rfl (st.argV (j := 9) (aft_of haft (by kernel_rfl)) rfl rfl) (st.argV (j := 11) (aft_of haft (by kernel_rfl)) rfl rfl) rfl
            · intro oo aa ww LL hho hLL haft st; obtain rfl := Option.some.inj hho; exact payW_pick st hlast hLL (by decide) (want_none rfl) rfl (st.argV (j := 6) (aft_of haft (by kernel_rfl)) rfl rfl) (st.argV (j := 12) (aft_of haft (by kernel_rfl)) rfl rfl) rfl
            · intro oo aa ww LL hho hLL haft st; obtain rfl := Option.some.inj hho; exact payW st hlast hLL (by decide) (want_none rfl) (run_assignV rfl (st.argV (j := 13) (aft_of haft (by kernel_rfl)) rfl rfl)) rfl
          clear hlast
          rw [st.end1 (Nat.le_of_eq (by kernel_rfl))]
          have k3 : KeepM 3 [2] a1 a3 := st.keepM (by kernel_rfl)
          have e2 : a3.eval (.tmp 2) = (.bool true) := st.argV (j := 14) (hL 14 (by omega)) rfl rfl
          clear st hL L
          replace e0 := k3.ev e0 (by decide)
          replace hz := k3.size.trans hz
          replace hd := k3.defers.trans hd
          refine wp_ret ?_
          exact post_slot rfl hd (get_of_bool e2) (Ret.b (by unfold isLetter; rw [hc1_1, hc1_4, hc1_8, hc1_11]; try rfl) hB)
        | false =>
          have hlast : lastOk (regOps Tryd.f28 1) 15 = true := by kernel_rfl
          refine region_ws (n := 15) [some (.int .u8 ((c.toNat : Nat) : Int)), some (.bool true), some (.bool true), some (.int .u8 ((c.toNat : Nat) : Int)), some (.bool false), some (.bool false), some (.bool false), some (.int .u8 ((c.toNat : Nat) : Int)), some (.bool true), some (.bool true), some (.int .u8 ((c.toNat : Nat) : Int)), some (.bool false), some (.bool false), some (.bool false), some (.bool false)] 15 w0 w0 (by rw [hz]; kernel_rfl) (by kernel_rfl) (by kernel_rfl) (by kernel_rfl) ?_ fun L a4 w4 hL st => ?_
          · refine ⟨⟨⟨⟨⟨⟨⟨⟨⟨⟨⟨⟨⟨⟨⟨trivial, ?_⟩, ?_⟩, ?_⟩, ?_⟩, ?_⟩, ?_⟩, ?_⟩, ?_⟩, ?_⟩, ?_⟩, ?_⟩, ?_⟩, ?_⟩, ?_⟩, ?_⟩
            · intro oo aa ww LL hho hLL haft st; obtain rfl := Option.some.inj hho; exact payW_move st hlast hLL (by decide) (want_none rfl) rfl (st.outV (by kernel_rfl) e0) rfl
            · intro oo aa ww LL hho hLL haft st; obtain rfl := Option.some.inj hho; exact payW st hlast hLL (by decide) (want_none rfl) ((run_ge8 rfl (st.argV (j := 0) (aft_of haft (by kernel_rfl)) rfl rfl) rfl).trans (okB (c := true) hc1_1)) rfl
            · intro oo aa ww LL hho hLL haft st; obtain rfl := Option.some.inj hho; exact payW_move st hlast hLL (by decide) (want_none rfl) rfl (st.argV (j := 1) (aft_of haft (by kernel_rfl)) rfl rfl) rfl
            · intro oo aa ww LL hho hLL haft st; obtain rfl := Option.some.inj hho; exact payW_move st hlast hLL (by decide) (st.wantV haft rfl (by kernel_rfl) rfl) rfl (st.outV (by kernel_rfl) e0) rfl
            · intro oo aa ww LL hho hLL haft st; obtain rfl := Option.some.inj hho; exact payW st hlast hLL (by decide) (st.wantV haft rfl (by kernel_rfl) rfl) ((run_le8 rfl (st.argV (j := 3) (aft_of haft (by kernel_rfl)) rfl rfl) rfl).trans (okB (c := false) hc1_4)) rfl
            · intro oo aa ww LL hho hLL haft st; obtain rfl := Option.some.inj hho; exact payW_pick st hlast hLL (by decide) (want_none rfl) rfl (st.argV (j := 2) (aft_of haft (by kernel_rfl)) rfl rfl) (st.argV (j := 4) (aft_of haft (by kernel_rfl)) rfl rfl) rfl
            · intro oo aa ww LL hho hLL haft st; obtain rfl := Option.some.inj hho; exact payW_move st hlast hLL (by decide) (want_none rfl) rfl (st.argV (j := 5) (aft_of haft (by kernel_rfl)) rfl rfl) rfl
            · intro oo aa ww LL hho hLL haft st; obtain rfl := Option.some.inj hho; exact payW_move st hlast hLL (by decide) (st.wantV haft rfl (by kernel_rfl) rfl) rfl (st.outV (by kernel_rfl) e0) rfl
            · intro oo aa ww LL hho hLL haft st; obtain rfl := Option.some.inj hho; exact payW st hlast hLL (by decide) (st.wantV haft rfl (by kernel_rfl) rfl) ((run_ge8 rfl (st.argV (j := 7) (aft_of haft (by kernel_rfl)) rfl rfl) rfl).trans (okB (c := true) hc1_8)) rfl
            · intro oo aa ww LL hho hLL haft st; obtain rfl := Option.some.inj hho; exact payW_move st hlast hLL (by decide) (st.wantV haft rfl (by kernel_rfl) rfl) rfl (st.argV (j := 8) (aft_of haft (by kernel_rfl)) rfl rfl) rfl
            · intro oo aa ww LL hho hLL haft st; obtain rfl := Option.some.inj hho; exact payW_move st hlast hLL (by decide) (st.wantV haft rfl (by kernel_rfl) rfl) rfl (st.outV (by kernel_rfl) e0) rfl
            · intro oo aa ww LL hho hLL haft st; obtain rfl := Option.some.inj hho; exact payW st hlast hLL (by decide) (st.wantV haft rfl (by kernel_rfl) rfl) ((run_le8 rfl (st.argV (j := 10) (aft_of haft (by kernel_rfl)) rfl rfl) rfl).trans (okB (c := false) hc1_11)) rfl
            · intro oo aa ww LL hho hLL haft st; obtain rfl := Option.some.inj hho; exact payW_pick st hlast hLL (by decide) (st.wantV haft rfl (by kernel_rfl) rfl) rfl (st.argV (j := 9) (aft_of haft (by kernel_rfl)) rfl rfl) (st.argV (j := 11) (aft_of haft (by kernel_rfl)) rfl rfl) rfl
            · intro oo aa ww LL hho hLL haft st; obtain rfl := Option.some.inj hho; exact payW_pick st hlast hLL (by decide) (want_none rfl) rfl (st.argV (j := 6) (aft_of haft (by kernel_rfl)) rfl rfl) (st.argV (j := 12) (aft_of haft (by kernel_rfl)) rfl rfl) rfl
            · intro oo aa ww LL hho hLL haft st; obtain rfl := Option.some.inj hho; exact payW st hlast hLL (by decide) (want_none rfl) (run_assignV rfl (st.argV (j := 13) (aft_of haft (by kernel_rfl)) rfl rfl)) rfl
          clear hlast
          rw [st.end1 (Nat.le_of_eq (by kernel_rfl))]
          have k4 : KeepM 3 [2] a1 a4 := st.keepM (by kernel_rfl)
          have e2 : a4.eval (.tmp 2) = (.bool false) := st.argV (j := 14) (hL 14 (by omega)) rfl rfl
          clear st hL L
          replace e0 := k4.ev e0 (by decide)
          replace hz := k4.size.trans hz
          replace hd := k4.defers.trans hd
          refine wp_ret ?_
          exact post_slot rfl hd (get_of_bool e2) (Ret.b (by unfold isLetter; rw [hc1_1, hc1_4, hc1_8, hc1_11]; try rfl) hB)
      | false =>
        have hlast : lastOk (regOps Tryd.f28 1) 15 = true := by kernel_rfl
        refine region_ws (n := 15) [some (.int .u8 ((c.toNat : Nat) : Int)), some (.bool true), some (.bool true), some (.int .u8 ((c.toNat : Nat) : Int)), some (.bool false), some (.bool false), some (.bool false), some (.int .u8 ((c.toNat : Nat) : Int)), some (.bool false), some (.bool false), some undef, some undef, some (.bool false), some (.bool false), some (.bool false)] 15 w0 w0 (by rw [hz]; kernel_rfl) (by kernel_rfl) (by kernel_rfl) (by kernel_rfl) ?_ fun L a5 w5 hL st => ?_
        · refine ⟨⟨⟨⟨⟨⟨⟨⟨⟨⟨⟨⟨⟨⟨⟨trivial, ?_⟩, ?_⟩, ?_⟩, ?_⟩, ?_⟩, ?_⟩, ?_⟩, ?_⟩, ?_⟩, ?_⟩, ?_⟩, ?_⟩, ?_⟩, ?_⟩, ?_⟩
          · intro oo aa ww LL hho hLL haft st; obtain rfl := Option.some.inj hho; exact payW_move st hlast hLL (by decide) (want_none rfl) rfl (st.outV (by kernel_rfl) e0) rfl
          · intro oo aa ww LL hho hLL haft st; obtain rfl := Option.some.inj hho; exact payW st hlast hLL (by decide) (want_none rfl) ((run_ge8 rfl (st.argV (j := 0) (aft_of haft (by kernel_rfl)) rfl rfl) rfl).trans (okB (c := true) hc1_1)) rfl
          · intro oo aa ww LL hho hLL haft st; obtain rfl := Option.some.inj hho; exact payW_move st hlast hLL (by decide) (want_none rfl) rfl (st.argV (j := 1) (aft_of haft (by kernel_rfl)) rfl rfl) rfl
          · intro oo aa ww LL hho hLL haft st; obtain rfl := Option.some.inj hho; exact payW_move st hlast hLL (by decide) (st.wantV haft rfl (by kernel_rfl) rfl) rfl (st.outV (by kernel_rfl) e0) rfl
          · intro oo aa ww LL hho hLL haft st; obtain rfl := Option.some.inj hho; exact payW st hlast hLL (by decide) (st.wantV haft rfl (by kernel_rfl) rfl) ((run_le8 rfl (st.argV (j := 3) (aft_of haft (by kernel_rfl)) rfl rfl) rfl).trans (okB (c := false) hc1_4)) rfl
          · intro oo aa ww LL hho hLL haft st; obtain rfl := Option.some.inj hho; exact payW_pick st hlast hLL (by decide) (want_none rfl) rfl (st.argV (j := 2) (aft_of haft (by kernel_rfl)) rfl rfl) (st.argV (j := 4) (aft_of haft (by kernel_rfl)) rfl rfl) rfl
          · intro oo aa ww LL hho hLL haft st; obtain rfl := Option.some.inj hho; exact payW_move st hlast hLL (by decide) (want_none rfl) rfl (st.argV (j := 5) (aft_of haft (by kernel_rfl)) rfl rfl) rfl
          · intro oo aa ww LL hho hLL haft st; obtain rfl := Option.some.inj hho; exact payW_move st hlast hLL (by decide) (st.wantV haft rfl (by kernel_rfl) rfl) rfl (st.outV (by kernel_rfl) e0) rfl
          · intro oo aa ww LL hho hLL haft st; obtain rfl := Option.some.inj hho; exact payW st hlast hLL (by decide) (st.wantV haft rfl (by kernel_rfl) rfl) ((run_ge8 rfl (st.argV (j := 7) (aft_of haft (by kernel_rfl)) rfl rfl) rfl).trans (okB (c := false) hc1_8)) rfl
          · intro oo aa ww LL hho hLL haft st; obtain rfl := Option.some.inj hho; exact payW_move st hlast hLL (by decide) (st.wantV haft rfl (by kernel_rfl) rfl) rfl (st.argV (j := 8) (aft_of haft (by kernel_rfl)) rfl rfl) rfl
          · intro oo aa ww LL hho hLL haft st; obtain rfl := Option.some.inj hho; exact st.skipW hlast hLL (by decide) haft rfl (by kernel_rfl) rfl (.inl rfl) rfl
          · intro oo aa ww LL hho hLL haft st; obtain rfl := Option.some.inj hho; exact st.skipW hlast hLL (by decide) haft rfl (by kernel_rfl) rfl (.inl rfl) rfl
          · intro oo aa ww LL hho hLL haft st; obtain rfl := Option.some.inj hho; exact payW_pick st hlast hLL (by decide) (st.wantV haft rfl (by kernel_rfl) rfl) rfl (st.argV (j := 9) (aft_of haft (by kernel_rfl)) rfl rfl) rfl rfl
          · intro oo aa ww LL hho hLL haft st; obtain rfl := Option.some.inj hho; exact payW_pick st hlast hLL (by decide) (want_none rfl) rfl (st.argV (j := 6) (aft_of haft (by kernel_rfl)) rfl rfl) (st.argV (j := 12) (aft_of haft (by kernel_rfl)) rfl rfl) rfl
          · intro oo aa ww LL hho hLL haft st; obtain rfl := Option.some.inj hho; exact payW st hlast hLL (by decide) (want_none rfl) (run_assignV rfl (st.argV (j := 13) (aft_of haft (by kernel_rfl)) rfl rfl)) rfl
        clear hlast
        rw [st.end1 (Nat.le_of_eq (by kernel_rfl))]
        have k5 : KeepM 3 [2] a1 a5 := st.keepM (by kernel_rfl)
        have e2 : a5.eval (.tmp 2) = (.bool false) := st.argV (j := 14) (hL 14 (by omega)) rfl rfl
        clear st hL L
        replace e0 := k5.ev e0 (by decide)
        replace hz := k5.size.trans hz
        replace hd := k5.defers.trans hd
        refine wp_ret ?_
        exact post_slot rfl hd (get_of_bool e2) (Ret.b (by unfold isLetter; rw [hc1_1, hc1_4, hc1_8]; try rfl) hB)
  | false =>
    cases hc1_8 : (decide ((65 : Int) ≤ ((c.toNat : Nat) : Int)) : Bool) with
    | true =>
      cases hc1_11 : (decide ((((c.toNat : Nat) : Int) : Int) ≤ 90) : Bool) with
      | true =>
        have hlast : lastOk (regOps Tryd.f28 1) 15 = true := by kernel_rfl
        refine region_ws (n := 15) [some (.int .u8 ((c.toNat : Nat) : Int)), some (.bool false), some (.bool false), some undef, some undef, some (.bool false), some (.bool false), some (.int .u8 ((c.toNat : Nat) : Int)), some (.bool true), some (.bool true), some (.int .u8 ((c.toNat : Nat) : Int)), some (.bool true), some (.bool true), some (.bool true), some (.bool true)] 15 w0 w0 (by rw [hz]; kernel_rfl) (by kernel_rfl) (by kernel_rfl) (by kernel_rfl) ?_ fun L a6 w6 hL st => ?_
        · refine ⟨⟨⟨⟨⟨⟨⟨⟨⟨⟨⟨⟨⟨⟨⟨trivial, ?_⟩, ?_⟩, ?_⟩, ?_⟩, ?_⟩, ?_⟩, ?_⟩, ?_⟩, ?_⟩, ?_⟩, ?_⟩, ?_⟩, ?_⟩, ?_⟩, ?_⟩
          · intro oo aa ww LL hho hLL haft st; obtain rfl := Option.some.inj hho; exact payW_move st hlast hLL (by decide) (want_none rfl) rfl (st.outV (by kernel_rfl) e0) rfl
          · intro oo aa ww LL hho hLL haft st; obtain rfl := Option.some.inj hho; exact payW st hlast hLL (by decide) (want_none rfl) ((run_ge8 rfl (st.argV (j := 0) (aft_of haft (by kernel_rfl)) rfl rfl) rfl).trans (okB (c := false) hc1_1)) rfl
          · intro oo aa ww LL hho hLL haft st; obtain rfl := Option.some.inj hho; exact payW_move st hlast hLL (by decide) (want_none rfl) rfl (st.argV (j := 1) (aft_of haft (by kernel_rfl)) rfl rfl) rfl
          · intro oo aa ww LL hho hLL haft st; obtain rfl := Option.some.inj hho; exact st.skipW hlast hLL (by decide) haft rfl (by kernel_rfl) rfl (.inl rfl) rfl
          · intro oo aa ww LL hho hLL haft st; obtain rfl := Option.some.inj hho; exact st.skipW hlast hLL (by decide) haft rfl (by kernel_rfl) rfl (.inl rfl) rfl
          · intro oo aa ww LL hho hLL haft st; obtain rfl := Option.some.inj hho; exact payW_pick st hlast hLL (by decide) (want_none rfl) rfl (st.argV (j := 2) (aft_of haft (by kernel_rfl)) rfl rfl) rfl rfl
          · intro oo aa ww LL hho hLL haft st; obtain rfl := Option.some.inj hho; exact payW_move st hlast hLL (by decide) (want_none rfl) rfl (st.argV (j := 5) (aft_of haft (by kernel_rfl)) rfl rfl) rfl
          · intro oo aa ww LL hho hLL haft st; obtain rfl := Option.some.inj hho; exact payW_move st hlast hLL (by decide) (st.wantV haft rfl (by kernel_rfl) rfl) rfl (st.outV (by kernel_rfl) e0) rfl
          · intro oo aa ww LL hho hLL haft st; obtain rfl := Option.some.inj hho; exact payW st hlast hLL (by decide) (st.wantV haft rfl (by kernel_rfl) rfl) ((run_ge8 rfl (st.argV (j := 7) (aft_of haft (by kernel_rfl)) rfl rfl) rfl).trans (okB (c := true) hc1_8)) rfl
          · intro oo aa ww LL hho hLL haft st; obtain rfl := Option.some.inj hho; exact payW_move st hlast hLL (by decide) (st.wantV haft rfl (by kernel_rfl) rfl) rfl (st.argV (j := 8) (aft_of haft (by kernel_rfl)) rfl rfl) rfl
          · intro oo aa ww LL hho hLL haft st; obtain rfl := Option.some.inj hho; exact payW_move st hlast hLL (by decide) (st.wantV haft rfl (by kernel_rfl) rfl) rfl (st.outV (by kernel_rfl) e0) rfl
          · intro oo aa ww LL hho hLL haft st; obtain rfl := Option.some.inj hho; exact payW st hlast hLL (by decide) (st.wantV haft rfl (by kernel_rfl) rfl) ((run_le8 rfl (st.argV (j := 10) (aft_of haft (by kernel_rfl)) rfl rfl) rfl).trans (okB (c := true) hc1_11)) rfl
          · intro oo aa ww LL hho hLL haft st; obtain rfl := Option.some.inj hho; exact payW_pick st hlast hLL (by decide) (st.wantV haft rfl (by kernel_rfl) rfl) rfl (st.argV (j := 9) (aft_of haft (by kernel_rfl)) rfl rfl) (st.argV (j := 11) (aft_of haft (by kernel_rfl)) rfl rfl) rfl
          · intro oo aa ww LL hho hLL haft st; obtain rfl := Option.some.inj hho; exact payW_pick st hlast hLL (by decide) (want_none rfl) rfl (st.argV (j := 6) (aft_of haft (by kernel_rfl)) rfl rfl) (st.argV (j := 12) (aft_of haft (by kernel_rfl)) rfl rfl) rfl
          · intro oo aa ww LL hho hLL haft st; obtain rfl := Option.some.inj hho; exact payW st hlast hLL (by decide) (want_none rfl) (run_assignV rfl (st.argV (j := 13) (aft_of haft (by kernel_rfl)) rfl rfl)) rfl
        clear hlast
        rw [st.end1 (Nat.le_of_eq (by kernel_rfl))]
        have k6 : KeepM 3 [2] a1 a6 := st.keepM (by kernel_rfl)
        have e2 : a6.eval (.tmp 2) = (.bool true) := st.argV (j := 14) (hL 14 (by omega)) rfl rfl
        clear st hL L
        replace e0 := k6.ev e0 (by decide)
        replace hz := k6.size.trans hz
        replace hd := k6.defers.trans hd
        refine wp_ret ?_
        exact post_slot rfl hd (get_of_bool e2) (Ret.b (by unfold isLetter; rw [hc1_1, hc1_8, hc1_11]; try rfl) hB)
      | false =>
        have hlast : lastOk (regOps Tryd.f28 1) 15 = true := by kernel_rfl
        refine region_ws (n := 15) [some (.int .u8 ((c.toNat : Nat) : Int)), some (.bool false), some (.bool false), some undef, some undef, some (.bool false), some (.bool false), some (.int .u8 ((c.toNat : Nat) : Int)), some (.bool true), some (.bool true), some (.int .u8 ((c.toNat : Nat) : Int)), some (.bool false), some (.bool false), some (.bool false), some (.bool false)] 15 w0 w0 (by rw [hz]; kernel_rfl) (by kernel_rfl) (by kernel_rfl) (by kernel_rfl) ?_ fun L a7 w7 hL st => ?_
        · refine ⟨⟨⟨⟨⟨⟨⟨⟨⟨⟨⟨⟨⟨⟨⟨trivial, ?_⟩, ?_⟩, ?_⟩, ?_⟩, ?_⟩, ?_⟩, ?_⟩, ?_⟩, ?_⟩, ?_⟩, ?_⟩, ?_⟩, ?_⟩, ?_⟩, ?_⟩
          · intro oo aa ww LL hho hLL haft st; obtain rfl := Option.some.inj hho; exact payW_move st hlast hLL (by decide) (want_none rfl) rfl (st.outV (by kernel_rfl) e0) rfl
          · intro oo aa ww LL hho hLL haft st; obtain rfl := Option.some.inj hho; exact payW st hlast hLL (by decide) (want_none rfl) ((run_ge8 rfl (st.argV (j := 0) (aft_of haft (by kernel_rfl)) rfl rfl) rfl).trans (okB (c := false) hc1_1)) rfl
          · intro oo aa ww LL hho hLL haft st; obtain rfl := Option.some.inj hho; exact payW_move st hlast hLL (by decide) (want_none rfl) rfl (st.argV (j := 1) (aft_of haft (by kernel_rfl)) rfl rfl) rfl
          · intro oo aa ww LL hho hLL haft st; obtain rfl := Option.some.inj hho; exact st.skipW hlast hLL (by decide) haft rfl (by kernel_rfl) rfl (.inl rfl) rfl
          · intro oo aa ww LL hho hLL haft st; obtain rfl := Option.some.inj hho; exact st.skipW hlast hLL (by decide) haft rfl (by kernel_rfl) rfl (.inl rfl) rfl
          · intro oo aa ww LL hho hLL haft st; obtain rfl := Option.some.inj hho; exact payW_pick st hlast hLL (by decide) (want_none rfl) rfl (st.argV (j := 2) (aft_of haft (by kernel_rfl)) rfl rfl) rfl rfl
          · intro oo aa ww LL hho hLL haft st; obtain rfl := Option.some.inj hho; exact payW_move st hlast hLL (by decide) (want_none rfl) rfl (st.argV (j := 5) (aft_of haft (by kernel_rfl)) rfl rfl) rfl
          · intro oo aa ww LL hho hLL haft st; obtain rfl := Option.some.inj hho; exact payW_move st hlast hLL (by decide) (st.wantV haft rfl (by kernel_rfl) rfl) rfl (st.outV (by kernel_rfl) e0) rfl
          · intro oo aa ww LL hho hLL haft st; obtain rfl := Option.some.inj hho; exact payW st hlast hLL (by decide) (st.wantV haft rfl (by kernel_rfl) rfl) ((run_ge8 rfl (st.argV (j := 7) (aft_of haft (by kernel_rfl)) rfl rfl) rfl).trans (okB (c := true) hc1_8)) rfl
          · intro oo aa ww LL hho hLL haft st; obtain rfl := Option.some.inj hho; exact payW_move st hlast hLL (by decide) (st.wantV haft rfl (by kernel_rfl) rfl) rfl (st.argV (j := 8) (aft_of haft (by kernel_rfl)) rfl rfl) rfl
          · intro oo aa ww LL hho hLL haft st; obtain rfl := Option.some.inj hho; exact payW_move st hlast hLL (by decide) (st.wantV haft rfl (by kernel_rfl) rfl) rfl (st.outV (by kernel_rfl) e0) rfl
          · intro oo aa ww LL hho hLL haft st; obtain rfl := Option.some.inj hho; exact payW st hlast hLL (by decide) (st.wantV haft rfl (by kernel_rfl) rfl) ((run_le8 rfl (st.argV (j := 10) (aft_of haft (by kernel_rfl)) rfl rfl) rfl).trans (okB (c := false) hc1_11)) rfl
          · intro oo aa ww LL hho hLL haft st; obtain rfl := Option.some.inj hho; exact payW_pick st hlast hLL (by decide) (st.wantV haft rfl (by kernel_rfl) rfl) rfl (st.argV (j := 9) (aft_of haft (by kernel_rfl)) rfl rfl) (st.argV (j := 11) (aft_of haft (by kernel_rfl)) rfl rfl) rfl
          · intro oo aa ww LL hho hLL haft st; obtain rfl := Option.some.inj hho; exact payW_pick st hlast hLL (by decide) (want_none rfl) rfl (st.argV (j := 6) (aft_of haft (by kernel_rfl)) rfl rfl) (st.argV (j := 12) (aft_of haft (by kernel_rfl)) rfl rfl) rfl
          · intro oo aa ww LL hho hLL haft st; obtain rfl := Option.some.inj hho; exact payW st hlast hLL (by decide) (want_none rfl) (run_assignV rfl (st.argV (j := 13) (aft_of haft (by kernel_rfl)) rfl rfl)) rfl
        clear hlast
        rw [st.end1 (Nat.le_of_eq (by kernel_rfl))]
        have k7 : KeepM 3 [2] a1 a7 := st.keepM (by kernel_rfl)
        have e2 : a7.eval (.tmp 2) = (.bool false) := st.argV (j := 14) (hL 14 (by omega)) rfl rfl
        clear st hL L
        replace e0 := k7.ev e0 (by decide)
        replace hz := k7.size.trans hz
        replace hd := k7.defers.trans hd
        refine wp_ret ?_
        exact post_slot rfl hd (get_of_bool e2) (Ret.b (by unfold isLetter; rw [hc1_1, hc1_8, hc1_11]; try rfl) hB)
    | false =>
      have hlast : lastOk (regOps Tryd.f28 1) 15 = true := by kernel_rfl
      refine region_ws (n := 15) [some (.int .u8 ((c.toNat : Nat) : Int)), some (.bool false), some (.bool false), some undef, some undef, some (.bool false), some (.bool false), some (.int .u8 ((c.toNat : Nat) : Int)), some (.bool false), some (.bool false), some undef, some undef, some (.bool false), some (.bool false), some (.bool false)] 15 w0 w0 (by rw [hz]; kernel_rfl) (by kernel_rfl) (by kernel_rfl) (by kernel_rfl) ?_ fun L a8 w8 hL st => ?_
      · refine ⟨⟨⟨⟨⟨⟨⟨⟨⟨⟨⟨⟨⟨⟨⟨trivial, ?_⟩, ?_⟩, ?_⟩, ?_⟩, ?_⟩, ?_⟩, ?_⟩, ?_⟩, ?_⟩, ?_⟩, ?_⟩, ?_⟩, ?_⟩, ?_⟩, ?_⟩
        · intro oo aa ww LL hho hLL haft st; obtain rfl := Option.some.inj hho; exact payW_move st hlast hLL (by decide) (want_none rfl) rfl (st.outV (by kernel_rfl) e0) rfl
        · intro oo aa ww LL hho hLL haft st; obtain rfl := Option.some.inj hho; exact payW st hlast hLL (by decide) (want_none rfl) ((run_ge8 rfl (st.argV (j := 0) (aft_of haft (by kernel_rfl)) rfl rfl) rfl).trans (okB (c := false) hc1_1)) rfl
        · intro oo aa ww LL hho hLL haft st; obtain rfl := Option.some.inj hho; exact payW_move st hlast hLL (by decide) (want_none rfl) rfl (st.argV (j := 1) (aft_of haft (by kernel_rfl)) rfl rfl) rfl
        · intro oo aa ww LL hho hLL haft st; obtain rfl := Option.some.inj hho; exact st.skipW hlast hLL (by decide) haft rfl (by kernel_rfl) rfl (.inl rfl) rfl
        · intro oo aa ww LL hho hLL haft st; obtain rfl := Option.some.inj hho; exact st.skipW hlast hLL (by decide) haft rfl (by kernel_rfl) rfl (.inl rfl) rfl
        · intro oo aa ww LL hho hLL haft st; obtain rfl := Option.some.inj hho; exact payW_pick st hlast hLL (by decide) (want_none rfl) rfl (st.argV (j := 2) (aft_of haft (by kernel_rfl)) rfl rfl) rfl rfl
        · intro oo aa ww LL hho hLL haft st; obtain rfl := Option.some.inj hho; exact payW_move st hlast hLL (by decide) (want_none rfl) rfl (st.argV (j := 5) (aft_of haft (by kernel_rfl)) rfl rfl) rfl
        · intro oo aa ww LL hho hLL haft st; obtain rfl := Option.some.inj hho; exact payW_move st hlast hLL (by decide) (st.wantV haft rfl (by kernel_rfl) rfl) rfl (st.outV (by kernel_rfl) e0) rfl
        · intro oo aa ww LL hho hLL haft st; obtain rfl := Option.some.inj hho; exact payW st hlast hLL (by decide) (st.wantV haft rfl (by kernel_rfl) rfl) ((run_ge8 rfl (st.argV (j := 7) (aft_of haft (by kernel_rfl)) rfl rfl) rfl).trans (okB (c := false) hc1_8)) rfl
        · intro oo aa ww LL hho hLL haft st; obtain rfl := Option.some.inj hho; exact payW_move st hlast hLL (by decide) (st.wantV haft rfl (by kernel_rfl) rfl) rfl (st.argV (j := 8) (aft_of haft (by kernel_rfl)) rfl rfl) rfl
        · intro oo aa ww LL hho hLL haft st; obtain rfl := Option.some.inj hho; exact st.skipW hlast hLL (by decide) haft rfl (by kernel_rfl) rfl (.inl rfl) rfl
        · intro oo aa ww LL hho hLL haft st; obtain rfl := Option.some.inj hho; exact st.skipW hlast hLL (by decide) haft rfl (by kernel_rfl) rfl (.inl rfl) rfl
        · intro oo aa ww LL hho hLL haft st; obtain rfl := Option.some.inj hho; exact payW_pick st hlast hLL (by decide) (st.wantV haft rfl (by kernel_rfl) rfl) rfl (st.argV (j := 9) (aft_of haft (by kernel_rfl)) rfl rfl) rfl rfl
        · intro oo aa ww LL hho hLL haft st; obtain rfl := Option.some.inj hho; exact payW_pick st hlast hLL (by decide) (want_none rfl) rfl (st.argV (j := 6) (aft_of haft (by kernel_rfl)) rfl rfl) (st.argV (j := 12) (aft_of haft (by kernel_rfl)) rfl rfl) rfl
        · intro oo aa ww LL hho hLL haft st; obtain rfl := Option.some.inj hho; exact payW st hlast hLL (by decide) (want_none rfl) (run_assignV rfl (st.argV (j := 13) (aft_of haft (by kernel_rfl)) rfl rfl)) rfl
      clear hlast
      rw [st.end1 (Nat.le_of_eq (by kernel_rfl))]
      have k8 : KeepM 3 [2] a1 a8 := st.keepM (by kernel_rfl)
      have e2 : a8.eval (.tmp 2) = (.bool false) := st.argV (j := 14) (hL 14 (by omega)) rfl rfl
      clear st hL L
      replace e0 := k8.ev e0 (by decide)
      replace hz := k8.size.trans hz
      replace hd := k8.defers.trans hd
      refine wp_ret ?_
      exact post_slot rfl hd (get_of_bool e2) (Ret.b (by unfold isLetter; rw [hc1_1, hc1_8]; try rfl) hB)
theorem en_ref_letter : Enters Tryd.prog 28 := enters_of Tryd.func28 (by kernel_rfl) rfl
set_option maxRecDepth 100000 in
theorem ref_digit (c : UInt8) (w0 : World) : Calls Tryd.prog 29 #[.int .u8 ((c.toNat : Nat) : Int)] w0 (Ret w0 (.bool (isDigit c))) := by
  refine calls_of_wp Tryd.func29 rfl ?_
  obtain ⟨hz, e0⟩ := start_act1 9 ((.int .u8 ((c.toNat : Nat) : Int))) (by decide)
  have hd : ({ tmps := #[(.int .u8 ((c.toNat : Nat) : Int))] ++ Array.replicate (9 - 1) undef, defers := [] } : Act).defers = [] := rfl
  rw [show Tryd.f29.ntmps - (#[(.int .u8 ((c.toNat : Nat) : Int))] : Array Value).size = 9 - 1 from rfl]
  generalize ({ tmps := #[(.int .u8 ((c.toNat : Nat) : Int))] ++ Array.replicate (9 - 1) undef, defers := [] } : Act) = a0 at hz e0 hd ⊢
  have hB : Below w0.heap.size w0 w0 := Below.refl _ _
  have hS := hB.size
  refine wp_seq ?_
  refine seq_startL (l := [0]) (by kernel_rfl) ?_
  refine seq_assign 2 (v := (.bool false)) rfl rfl rfl rfl rfl ?_
  refine seq_nil ?_
  refine seq_out ((KeepM.refl 3 [2] a0).put (by decide)) fun a1 k1 tr => ?_
  have f2 := tr 2 (.bool false) (ev_same (by first | (rw [hz]; decide) | (simp only [size_put, hz]; decide)))
  clear tr
  replace e0 := k1.ev e0 (by decide)
  replace hz := k1.size.trans hz
  replace hd := k1.defers.trans hd
  have e2 := f2
  clear f2
  refine wp_seq ?_
  cases hc1_1 : (decide ((48 : Int) ≤ ((c.toNat : Nat) : Int)) : Bool) with
  | true =>
    cases hc1_4 : (decide ((((c.toNat : Nat) : Int) : Int) ≤ 57) : Bool) with
    | true =>
      have hlast : lastOk (regOps Tryd.f29 1) 7 = true := by kernel_rfl
      refine region_ws (n := 7) [some (.int .u8 ((c.toNat : Nat) : Int)), some (.bool true), some (.bool true), some (.int .u8 ((c.toNat : Nat) : Int)), some (.bool true), some (.bool true), some (.bool true)] 7 w0 w0 (by rw [hz]; kernel_rfl) (by kernel_rfl) (by kernel_rfl) (by kernel_rfl) ?_ fun L a2 w2 hL st => ?_
      · refine ⟨⟨⟨⟨⟨⟨⟨trivial, ?_⟩, ?_⟩, ?_⟩, ?_⟩, ?_⟩, ?_⟩, ?_⟩
        · intro oo aa ww LL hho hLL haft st; obtain rfl := Option.some.inj hho; exact payW_move st hlast hLL (by decide) (want_none rfl) rfl (st.outV (by kernel_rfl) e0) rfl
        · intro oo aa ww LL hho hLL haft st; obtain rfl := Option.some.inj hho; exact payW st hlast hLL (by decide) (want_none rfl) ((run_ge8 rfl (st.argV (j := 0) (aft_of haft (by kernel_rfl)) rfl rfl) rfl).trans (okB (c := true) hc1_1)) rfl
        · intro oo aa ww LL hho hLL haft st; obtain rfl := Option.some.inj hho; exact payW_move st hlast hLL (by decide) (want_none rfl) rfl (st.argV (j := 1) (aft_of haft (by kernel_rfl)) rfl rfl) rfl
        · intro oo aa ww LL hho hLL haft st; obtain rfl := Option.some.inj hho; exact payW_move st hlast hLL (by decide) (st.wantV haft rfl (by kernel_rfl) rfl) rfl (st.outV (by kernel_rfl) e0) rfl
        · intro oo aa ww LL hho hLL haft st; obtain rfl := Option.some.inj hho; exact payW st hlast hLL (by decide) (st.wantV haft rfl (by kernel_rfl) rfl) ((run_le8 rfl (st.argV (j := 3) (aft_of haft (by kernel_rfl)) rfl rfl) rfl).trans (okB (c := true) hc1_4)) rfl
        · intro oo aa ww LL hho hLL haft st; obtain rfl := Option.some.inj hho; exact payW_pick st hlast hLL (by decide) (want_none rfl) rfl (st.argV (j := 2) (aft_of haft (by kernel_rfl)) rfl rfl) (st.argV (j := 4) (aft_of haft (by kernel_rfl)) rfl rfl) rfl
        · intro oo aa ww LL hho hLL haft st; obtain rfl := Option.some.inj hho; exact payW st hlast hLL (by decide) (want_none rfl) (run_assignV rfl (st.argV (j := 5) (aft_of haft (by kernel_rfl)) rfl rfl)) rfl
      clear hlast
      rw [st.end1 (Nat.le_of_eq (by kernel_rfl))]
      have k2 : KeepM 3 [2] a1 a2 := st.keepM (by kernel_rfl)
      have e2 : a2.eval (.tmp 2) = (.bool true) := st.argV (j := 6) (hL 6 (by omega)) rfl rfl
      clear st hL L
      replace e0 := k2.ev e0 (by decide)
      replace hz := k2.size.trans hz
      replace hd := k2.defers.trans hd
      refine wp_ret ?_
      exact post_slot rfl hd (get_of_bool e2) (Ret.b (by unfold isDigit; rw [hc1_1, hc1_4]; try rfl) hB)
    | false =>
      have hlast : lastOk (regOps Tryd.f29 1) 7 = true := by kernel_rfl
      refine region_ws (n := 7) [some (.int .u8 ((c.toNat : Nat) : Int)), some (.bool true), some (.bool true), some (.int .u8 ((c.toNat : Nat) : Int)), some (.bool false), some (.bool false), some (.bool false)] 7 w0 w0 (by rw [hz]; kernel_rfl) (by kernel_rfl) (by kernel_rfl) (by kernel_rfl) ?_ fun L a3 w3 hL st => ?_
      · refine ⟨⟨⟨⟨⟨⟨⟨trivial, ?_⟩, ?_⟩, ?_⟩, ?_⟩, ?_⟩, ?_⟩, ?_⟩
        · intro oo aa ww LL hho hLL haft st; obtain rfl := Option.some.inj hho; exact payW_move st hlast hLL (by decide) (want_none rfl) rfl (st.outV (by kernel_rfl) e0) rfl
        · intro oo aa ww LL hho hLL haft st; obtain rfl := Option.some.inj hho; exact payW st hlast hLL (by decide) (want_none rfl) ((run_ge8 rfl (st.argV (j := 0) (aft_of haft (by kernel_rfl)) rfl rfl) rfl).trans (okB (c := true) hc1_1)) rfl
        · intro oo aa ww LL hho hLL haft st; obtain rfl := Option.some.inj hho; exact payW_move st hlast hLL (by decide) (want_none rfl) rfl (st.argV (j := 1) (aft_of haft (by kernel_rfl)) rfl rfl) rfl
        · intro oo aa ww LL hho hLL haft st; obtain rfl := Option.some.inj hho; exact payW_move st hlast hLL (by decide) (st.wantV haft rfl (by kernel_rfl) rfl) rfl (st.outV (by kernel_rfl) e0) rfl
        · intro oo aa ww LL hho hLL haft st; obtain rfl := Option.some.inj hho; exact payW st hlast hLL (by decide) (st.wantV haft rfl (by kernel_rfl) rfl) ((run_le8 rfl (st.argV (j := 3) (aft_of haft (by kernel_rfl)) rfl rfl) rfl).trans (okB (c := false) hc1_4)) rfl
        · intro oo aa ww LL hho hLL haft st; obtain rfl := Option.some.inj hho; exact payW_pick st hlast hLL (by decide) (want_none rfl) rfl (st.argV (j := 2) (aft_of haft (by kernel_rfl)) rfl rfl) (st.argV (j := 4) (aft_of haft (by kernel_rfl)) rfl rfl) rfl
        · intro oo aa ww LL hho hLL haft st; obtain rfl := Option.some.inj hho; exact payW st hlast hLL (by decide) (want_none rfl) (run_assignV rfl (st.argV (j := 5) (aft_of haft (by kernel_rfl)) rfl rfl)) rfl
      clear hlast
      rw [st.end1 (Nat.le_of_eq (by kernel_rfl))]
      have k3 : KeepM 3 [2] a1 a3 := st.keepM (by kernel_rfl)
      have e2 : a3.eval (.tmp 2) = (.bool false) := st.argV (j := 6) (hL 6 (by omega)) rfl rfl
      clear st hL L
      replace e0 := k3.ev e0 (by decide)
      replace hz := k3.size.trans hz
      replace hd := k3.defers.trans hd
      refine wp_ret ?_
      exact post_slot rfl hd (get_of_bool e2) (Ret.b (by unfold isDigit; rw [hc1_1, hc1_4]; try rfl) hB)
  | false =>
    have hlast : lastOk (regOps Tryd.f29 1) 7 = true := by kernel_rfl
    refine region_ws (n := 7) [some (.int .u8 ((c.toNat : Nat) : Int)), some (.bool false), some (.bool false), some undef, some undef, some (.bool false), some (.bool false)] 7 w0 w0 (by rw [hz]; kernel_rfl) (by kernel_rfl) (by kernel_rfl) (by kernel_rfl) ?_ fun L a4 w4 hL st => ?_
    · refine ⟨⟨⟨⟨⟨⟨⟨trivial, ?_⟩, ?_⟩, ?_⟩, ?_⟩, ?_⟩, ?_⟩, ?_⟩
      · intro oo aa ww LL hho hLL haft st; obtain rfl := Option.some.inj hho; exact payW_move st hlast hLL (by decide) (want_none rfl) rfl (st.outV (by kernel_rfl) e0) rfl
      · intro oo aa ww LL hho hLL haft st; obtain rfl := Option.some.inj hho; exact payW st hlast hLL (by decide) (want_none rfl) ((run_ge8 rfl (st.argV (j := 0) (aft_of haft (by kernel_rfl)) rfl rfl) rfl).trans (okB (c := false) hc1_1)) rfl
      · intro oo aa ww LL hho hLL haft st; obtain rfl := Option.some.inj hho; exact payW_move st hlast hLL (by decide) (want_none rfl) rfl (st.argV (j := 1) (aft_of haft (by kernel_rfl)) rfl rfl) rfl
      · intro oo aa ww LL hho hLL haft st; obtain rfl := Option.some.inj hho; exact st.skipW hlast hLL (by decide) haft rfl (by kernel_rfl) rfl (.inl rfl) rfl
      · intro oo aa ww LL hho hLL haft st; obtain rfl := Option.some.inj hho; exact st.skipW hlast hLL (by decide) haft rfl (by kernel_rfl) rfl (.inl rfl) rfl
      · intro oo aa ww LL hho hLL haft st; obtain rfl := Option.some.inj hho; exact payW_pick st hlast hLL (by decide) (want_none rfl) rfl (st.argV (j := 2) (aft_of haft (by kernel_rfl)) rfl rfl) rfl rfl
      · intro oo aa ww LL hho hLL haft st; obtain rfl := Option.some.inj hho; exact payW st hlast hLL (by decide) (want_none rfl) (run_assignV rfl (st.argV (j := 5) (aft_of haft (by kernel_rfl)) rfl rfl)) rfl
    clear hlast
    rw [st.end1 (Nat.le_of_eq (by kernel_rfl))]
    have k4 : KeepM 3 [2] a1 a4 := st.keepM (by kernel_rfl)
    have e2 : a4.eval (.tmp 2) = (.bool false) := st.argV (j := 6) (hL 6 (by omega)) rfl rfl
    clear st hL L
    replace e0 := k4.ev e0 (by decide)
    replace hz := k4.size.trans hz
    replace hd := k4.defers.trans hd
    refine wp_ret ?_
    exact post_slot rfl hd (get_of_bool e2) (Ret.b (by unfold isDigit; rw [hc1_1]; try rfl) hB)
theorem en_ref_digit : Enters Tryd.prog 29 := enters_of Tryd.func29 (by kernel_rfl) rfl
set_option maxRecDepth 100000 in
theorem ref_blank (c : UInt8) (w0 : World) : Calls Tryd.prog 26 #[.int .u8 ((c.toNat : Nat) : Int)] w0 (Ret w0 (.bool (isBlank c))) := by
  refine calls_of_wp Tryd.func26 rfl ?_
  obtain ⟨hz, e0⟩ := start_act1 17 ((.int .u8 ((c.toNat : Nat) : Int))) (by decide)
  have hd : ({ tmps := #[(.int .u8 ((c.toNat : Nat) : Int))] ++ Array.replicate (17 - 1) undef, defers := [] } : Act).defers = [] := rfl
  rw [show Tryd.f26.ntmps - (#[(.int .u8 ((c.toNat : Nat) : Int))] : Array Value).size = 17 - 1 from rfl]
  generalize ({ tmps := #[(.int .u8 ((c.toNat : Nat) : Int))] ++ Array.replicate (17 - 1) undef, defers := [] } : Act) = a0 at hz e0 hd ⊢
  have hB : Below w0.heap.size w0 w0 := Below.refl _ _
  have hS := hB.size
  refine wp_seq ?_
  refine seq_startL (l := [0]) (by kernel_rfl) ?_
  refine seq_assign 2 (v := (.bool false)) rfl rfl rfl rfl rfl ?_
  refine seq_nil ?_
  refine seq_out ((KeepM.refl 3 [2] a0).put (by decide)) fun a1 k1 tr => ?_
  have f2 := tr 2 (.bool false) (ev_same (by first | (rw [hz]; decide) | (simp only [size_put, hz]; decide)))
  clear tr
  replace e0 := k1.ev e0 (by decide)
  replace hz := k1.size.trans hz
  replace hd := k1.defers.trans hd
  have e2 := f2
  clear f2
  refine wp_seq ?_
  cases hc1_1 : ((((c.toNat : Nat) : Int) == 32) : Bool) with
  | true =>
    have hlast : lastOk (regOps Tryd.f26 1) 15 = true := by kernel_rfl
    refine region_ws (n := 15) [some (.int .u8 ((c.toNat : Nat) : Int)), some (.bool true), some (.bool true), some undef, some undef, some (.bool true), some (.bool true), some undef, some undef, some (.bool true), some (.bool true), some undef, some undef, some (.bool true), some (.bool true)] 15 w0 w0 (by rw [hz]; kernel_rfl) (by kernel_rfl) (by kernel_rfl) (by kernel_rfl) ?_ fun L a2 w2 hL st => ?_
    · refine ⟨⟨⟨⟨⟨⟨⟨⟨⟨⟨⟨⟨⟨⟨⟨trivial, ?_⟩, ?_⟩, ?_⟩, ?_⟩, ?_⟩, ?_⟩, ?_⟩, ?_⟩, ?_⟩, ?_⟩, ?_⟩, ?_⟩, ?_⟩, ?_⟩, ?_⟩
      · intro oo aa ww LL hho hLL haft st; obtain rfl := Option.some.inj hho; exact payW_move st hlast hLL (by decide) (want_none rfl) rfl (st.outV (by kernel_rfl) e0) rfl
      · intro oo aa ww LL hho hLL haft st; obtain rfl := Option.some.inj hho; exact payW st hlast hLL (by decide) (want_none rfl) ((run_eq8 rfl (st.argV (j := 0) (aft_of haft (by kernel_rfl)) rfl rfl) rfl).trans (okB (c := true) hc1_1)) rfl
      · intro oo aa ww LL hho hLL haft st; obtain rfl := Option.some.inj hho; exact payW_move st hlast hLL (by decide) (want_none rfl) rfl (st.argV (j := 1) (aft_of haft (by kernel_rfl)) rfl rfl) rfl
      · intro oo aa ww LL hho hLL haft st; obtain rfl := Option.some.inj hho; exact st.skipW hlast hLL (by decide) haft rfl (by kernel_rfl) rfl (.inl rfl) rfl
      · intro oo aa ww LL hho hLL haft st; obtain rfl := Option.some.inj hho; exact st.skipW hlast hLL (by decide) haft rfl (by kernel_rfl) rfl (.inl rfl) rfl
      · intro oo aa ww LL hho hLL haft st; obtain rfl := Option.some.inj hho; exact payW_pick st hlast hLL (by decide) (want_none rfl) rfl (st.argV (j := 2) (aft_of haft (by kernel_rfl)) rfl rfl) rfl rfl
      · intro oo aa ww LL hho hLL haft st; obtain rfl := Option.some.inj hho; exact payW_move st hlast hLL (by decide) (want_none rfl) rfl (st.argV (j := 5) (aft_of haft (by kernel_rfl)) rfl rfl) rfl
      · intro oo aa ww LL hho hLL haft st; obtain rfl := Option.some.inj hho; exact st.skipW hlast hLL (by decide) haft rfl (by kernel_rfl) rfl (.inl rfl) rfl
      · intro oo aa ww LL hho hLL haft st; obtain rfl := Option.some.inj hho; exact st.skipW hlast hLL (by decide) haft rfl (by kernel_rfl) rfl (.inl rfl) rfl
      · intro oo aa ww LL hho hLL haft st; obtain rfl := Option.some.inj hho; exact payW_pick st hlast hLL (by decide) (want_none rfl) rfl (st.argV (j := 6) (aft_of haft (by kernel_rfl)) rfl rfl) rfl rfl
      · intro oo aa ww LL hho hLL haft st; obtain rfl := Option.some.inj hho; exact payW_move st hlast hLL (by decide) (want_none rfl) rfl (st.argV (j := 9) (aft_of haft (by kernel_rfl)) rfl rfl) rfl
      · intro oo aa ww LL hho hLL haft st; obtain rfl := Option.some.inj hho; exact st.skipW hlast hLL (by decide) haft rfl (by kernel_rfl) rfl (.inl rfl) rfl
      · intro oo aa ww LL hho hLL haft st; obtain rfl := Option.some.inj hho; exact st.skipW hlast hLL (by decide) haft rfl (by kernel_rfl) rfl (.inl rfl) rfl
      · intro oo aa ww LL hho hLL haft st; obtain rfl := Option.some.inj hho; exact payW_pick st hlast hLL (by decide) (want_none rfl) rfl (st.argV (j := 10) (aft_of haft (by kernel_rfl)) rfl rfl) rfl rfl
      · intro oo aa ww LL hho hLL haft st; obtain rfl := Option.some.inj hho; exact payW st hlast hLL (by decide) (want_none rfl) (run_assignV rfl (st.argV (j := 13) (aft_of haft (by kernel_rfl)) rfl rfl)) rfl
    clear hlast
    rw [st.end1 (Nat.le_of_eq (by kernel_rfl))]
    have k2 : KeepM 3 [2] a1 a2 := st.keepM (by kernel_rfl)
    have e2 : a2.eval (.tmp 2) = (.bool true) := st.argV (j := 14) (hL 14 (by omega)) rfl rfl
    clear st hL L
    replace e0 := k2.ev e0 (by decide)
    replace hz := k2.size.trans hz
    replace hd := k2.defers.trans hd
    refine wp_ret ?_
    exact post_slot rfl hd (get_of_bool e2) (Ret.b (by unfold isBlank; rw [hc1_1]; try rfl) hB)
  | false =>
    cases hc1_4 : ((((c.toNat : Nat) : Int) == 9) : Bool) with
    | true =>
      have hlast : lastOk (regOps Tryd.f26 1) 15 = true := by kernel_rfl
      refine region_ws (n := 15) [some (.int .u8 ((c.toNat : Nat) : Int)), some (.bool false), some (.bool false), some (.int .u8 ((c.toNat : Nat) : Int)), some (.bool true), some (.bool true), some (.bool true), some undef, some undef, some (.bool true), some (.bool true), some undef, some undef, some (.bool true), some (.bool true)] 15 w0 w0 (by rw [hz]; kernel_rfl) (by kernel_rfl) (by kernel_rfl) (by kernel_rfl) ?_ fun L a3 w3 hL st => ?_
      · refine ⟨⟨⟨⟨⟨⟨⟨⟨⟨⟨⟨⟨⟨⟨⟨trivial, ?_⟩, ?_⟩, ?_⟩, ?_⟩, ?_⟩, ?_⟩, ?_⟩, ?_⟩, ?_⟩, ?_⟩, ?_⟩, ?_⟩, ?_⟩, ?_⟩, ?_⟩
        · intro oo aa ww LL hho hLL haft st; obtain rfl := Option.some.inj hho; exact payW_move st hlast hLL (by decide) (want_none rfl) rfl (st.outV (by kernel_rfl) e0) rfl
        · intro oo aa ww LL hho hLL haft st; obtain rfl := Option.some.inj hho; exact payW st hlast hLL (by decide) (want_none rfl) ((run_eq8 rfl (st.argV (j := 0) (aft_of haft (by kernel_rfl)) rfl rfl) rfl).trans (okB (c := false) hc1_1)) rfl
        · intro oo aa ww LL hho hLL haft st; obtain rfl := Option.some.inj hho; exact payW_move st hlast hLL (by decide) (want_none rfl) rfl (st.argV (j := 1) (aft_of haft (by kernel_rfl)) rfl rfl) rfl
        · intro oo aa ww LL hho hLL haft st; obtain rfl := Option.some.inj hho; exact payW_move st hlast hLL (by decide) (st.wantV haft rfl (by kernel_rfl) rfl) rfl (st.outV (by kernel_rfl) e0) rfl
        · intro oo aa ww LL hho hLL haft st; obtain rfl := Option.some.inj hho; exact payW st hlast hLL (by decide) (st.wantV haft rfl (by kernel_rfl) rfl) ((run_eq8 rfl (st.argV (j := 3) (aft_of haft (by kernel_rfl)) rfl rfl) rfl).trans (okB (c := true) hc1_4)) rfl
        · intro oo aa ww LL hho hLL haft st; obtain rfl := Option.some.inj hho; exact payW_pick st hlast hLL (by decide) (want_none rfl) rfl (st.argV (j := 2) (aft_of haft (by kernel_rfl)) rfl rfl) (st.argV (j := 4) (aft_of haft (by kernel_rfl)) rfl rfl) rfl
        · intro oo aa ww LL hho hLL haft st; obtain rfl := Option.some.inj hho; exact payW_move st hlast hLL (by decide) (want_none rfl) rfl (st.argV (j := 5) (aft_of haft (by kernel_rfl)) rfl rfl) rfl
        · intro oo aa ww LL hho hLL haft st; obtain rfl := Option.some.inj hho; exact st.skipW hlast hLL (by decide) haft rfl (by kernel_rfl) rfl (.inl rfl) rfl
        · intro oo aa ww LL hho hLL haft st; obtain rfl := Option.some.inj hho; exact st.skipW hlast hLL (by decide) haft rfl (by kernel_rfl) rfl (.inl rfl) rfl
        · intro oo aa ww LL hho hLL haft st; obtain rfl := Option.some.inj hho; exact payW_pick st hlast hLL (by decide) (want_none rfl) rfl (st.argV (j := 6) (aft_of haft (by kernel_rfl)) rfl rfl) rfl rfl
        · intro oo aa ww LL hho hLL haft st; obtain rfl := Option.some.inj hho; exact payW_move st hlast hLL (by decide) (want_none rfl) rfl (st.argV (j := 9) (aft_of haft (by kernel_rfl)) rfl rfl) rfl
        · intro oo aa ww LL hho hLL haft st; obtain rfl := Option.some.inj hho; exact st.skipW hlast hLL (by decide) haft rfl (by kernel_rfl) rfl (.inl rfl) rfl
        · intro oo aa ww LL hho hLL haft st; obtain rfl := Option.some.inj hho; exact st.skipW hlast hLL (by decide) haft rfl (by kernel_rfl) rfl (.inl rfl) rfl
        · intro oo aa ww LL hho hLL haft st; obtain rfl := Option.some.inj hho; exact payW_pick st hlast hLL (by decide) (want_none rfl) rfl (st.argV (j := 10) (aft_of haft (by kernel_rfl)) rfl rfl) rfl rfl
        · intro oo aa ww LL hho hLL haft st; obtain rfl := Option.some.inj hho; exact payW st hlast hLL (by decide) (want_none rfl) (run_assignV rfl (st.argV (j := 13) (aft_of haft (by kernel_rfl)) rfl rfl)) rfl
      clear hlast
      rw [st.end1 (Nat.le_of_eq (by kernel_rfl))]
      have k3 : KeepM 3 [2] a1 a3 := st.keepM (by kernel_rfl)
      have e2 : a3.eval (.tmp 2) = (.bool true) := st.argV (j := 14) (hL 14 (by omega)) rfl rfl
      clear st hL L
      replace e0 := k3.ev e0 (by decide)
      replace hz := k3.size.trans hz
      replace hd := k3.defers.trans hd
      refine wp_ret ?_
      exact post_slot rfl hd (get_of_bool e2) (Ret.b (by unfold isBlank; rw [hc1_1, hc1_4]; try rfl) hB)
    | false =>
      cases hc1_8 : ((((c.toNat : Nat) : Int) == 10) : Bool) with
      | true =>
        have hlast : lastOk (regOps Tryd.f26 1) 15 = true := by kernel_rfl
        refine region_ws (n := 15) [some (.int .u8 ((c.toNat : Nat) : Int)), some (.bool false), some (.bool false), some (.int .u8 ((c.toNat : Nat) : Int)), some (.bool false), some (.bool false), some (.bool false), some (.int .u8 ((c.toNat : Nat) : Int)), some (.bool true), some (.bool true), some (.bool true), some undef, some undef, some (.bool true), some (.bool true)] 15 w0 w0 (by rw [hz]; kernel_rfl) (by kernel_rfl) (by kernel_rfl) (by kernel_rfl) ?_ fun L a4 w4 hL st => ?_
        · refine ⟨⟨⟨⟨⟨⟨⟨⟨⟨⟨⟨⟨⟨⟨⟨trivial, ?_⟩, ?_⟩, ?_⟩, ?_⟩, ?_⟩, ?_⟩, ?_⟩, ?_⟩, ?_⟩, ?_⟩, ?_⟩, ?_⟩, ?_⟩, ?_⟩, ?_⟩
          · intro oo aa ww LL hho hLL haft st; obtain rfl := Option.some.inj hho; exact payW_move st hlast hLL (by decide) (want_none rfl) rfl (st.outV (by kernel_rfl) e0) rfl
          · intro oo aa ww LL hho hLL haft st; obtain rfl := Option.some.inj hho; exact payW st hlast hLL (by decide) (want_none rfl) ((run_eq8 rfl (st.argV (j := 0) (aft_of haft (by kernel_rfl)) rfl rfl) rfl).trans (okB (c := false) hc1_1)) rfl
          · intro oo aa ww LL hho hLL haft st; obtain rfl := Option.some.inj hho; exact payW_move st hlast hLL (by decide) (want_none rfl) rfl (st.argV (j := 1) (aft_of haft (by kernel_rfl)) rfl rfl) rfl
          · intro oo aa ww LL hho hLL haft st; obtain rfl := Option.some.inj hho; exact payW_move st hlast hLL (by decide) (st.wantV haft rfl (by kernel_rfl) rfl) rfl (st.outV (by kernel_rfl) e0) rfl
          · intro oo aa ww LL hho hLL haft st; obtain rfl := Option.some.inj hho; exact payW st hlast hLL (by decide) (st.wantV haft rfl (by kernel_rfl) rfl) ((run_eq8 rfl (st.argV (j := 3) (aft_of haft (by kernel_rfl)) rfl rfl) rfl).trans (okB (c := false) hc1_4)) rfl
          · intro oo aa ww LL hho hLL haft st; obtain rfl := Option.some.inj hho; exact payW_pick st hlast hLL (by decide) (want_none rfl) rfl (st.argV (j := 2) (aft_of haft (by kernel_rfl)) rfl rfl) (st.argV (j := 4) (aft_of haft (by kernel_rfl)) rfl rfl) rfl
          · intro oo aa ww LL hho hLL haft st; obtain rfl := Option.some.inj hho; exact payW_move st hlast hLL (by decide) (want_none rfl) rfl (st.argV (j := 5) (aft_of haft (by kernel_rfl)) rfl rfl) rfl
          · intro oo aa ww LL hho hLL haft st; obtain rfl := Option.some.inj hho; exact payW_move st hlast hLL (by decide) (st.wantV haft rfl (by kernel_rfl) rfl) rfl (st.outV (by kernel_rfl) e0) rfl
          · intro oo aa ww LL hho hLL haft st; obtain rfl := Option.some.inj hho; exact payW st hlast hLL (by decide) (st.wantV haft rfl (by kernel_rfl) rfl) ((run_eq8 rfl (st.argV (j := 7) (aft_of haft (by kernel_rfl)) rfl rfl) rfl).trans (okB (c := true) hc1_8)) rfl
          · intro oo aa ww LL hho hLL haft st; obtain rfl := Option.some.inj hho; exact payW_pick st hlast hLL (by decide) (want_none rfl) rfl (st.argV (j := 6) (aft_of haft (by kernel_rfl)) rfl rfl) (st.argV (j := 8) (aft_of haft (by kernel_rfl)) rfl rfl) rfl
          · intro oo aa ww LL hho hLL haft st; obtain rfl := Option.some.inj hho; exact payW_move st hlast hLL (by decide) (want_none rfl) rfl (st.argV (j := 9) (aft_of haft (by kernel_rfl)) rfl rfl) rfl
          · intro oo aa ww LL hho hLL haft st; obtain rfl := Option.some.inj hho; exact st.skipW hlast hLL (by decide) haft rfl (by kernel_rfl) rfl (.inl rfl) rfl
          · intro oo aa ww LL hho hLL haft st; obtain rfl := Option.some.inj hho; exact st.skipW hlast hLL (by decide) haft rfl (by kernel_rfl) rfl (.inl rfl) rfl
          · intro oo aa ww LL hho hLL haft st; obtain rfl := Option.some.inj hho; exact payW_pick st hlast hLL (by decide) (want_none rfl) rfl (st.argV (j := 10) (aft_of haft (by kernel_rfl)) rfl rfl) rfl rfl
          · intro oo aa ww LL hho hLL haft st; obtain rfl := Option.some.inj hho; exact payW st hlast hLL (by decide) (want_none rfl) (run_assignV rfl (st.argV (j := 13) (aft_of haft (by kernel_rfl)) rfl rfl)) rfl
        clear hlast
        rw [st.end1 (Nat.le_of_eq (by kernel_rfl))]
        have k4 : KeepM 3 [2] a1 a4 := st.keepM (by kernel_rfl)
        have e2 : a4.eval (.tmp 2) = (.bool true) := st.argV (j := 14) (hL 14 (by omega)) rfl rfl
        clear st hL L
        replace e0 := k4.ev e0 (by decide)
        replace hz := k4.size.trans hz
        replace hd := k4.defers.trans hd
        refine wp_ret ?_
        exact post_slot rfl hd (get_of_bool e2) (Ret.b (by unfold isBlank; rw [hc1_1, hc1_4, hc1_8]; try rfl) hB)
      | false =>
        cases hc1_12 : ((((c.toNat : Nat) : Int) == 13) : Bool) with
        | true =>
          have hlast : lastOk (regOps Tryd.f26 1) 15 = true := by kernel_rfl
          refine region_ws (n := 15) [some (.int .u8 ((c.toNat : Nat) : Int)), some (.bool false), some (.bool false), some (.int .u8 ((c.toNat : Nat) : Int)), some (.bool false), some (.bool false), some (.bool false), some (.int .u8 ((c.toNat : Nat) : Int)), some (.bool false), some (.bool false), some (.bool false), some (.int .u8 ((c.toNat : Nat) : Int)), some (.bool true), some (.bool true), some (.bool true)] 15 w0 w0 (by rw [hz]; kernel_rfl) (by kernel_rfl) (by kernel_rfl) (by kernel_rfl) ?_ fun L a5 w5 hL st => ?_
          · refine ⟨⟨⟨⟨⟨⟨⟨⟨⟨⟨⟨⟨⟨⟨⟨trivial, ?_⟩, ?_⟩, ?_⟩, ?_⟩, ?_⟩, ?_⟩, ?_⟩, ?_⟩, ?_⟩, ?_⟩, ?_⟩, ?_⟩, ?_⟩, ?_⟩, ?_⟩
            · intro oo aa ww LL hho hLL haft st; obtain rfl := Option.some.inj hho; exact payW_move st hlast hLL (by decide) (want_none rfl) rfl (st.outV (by kernel_rfl) e0) rfl
            · intro oo aa ww LL hho hLL haft st; obtain rfl := Option.some.inj hho; exact payW st hlast hLL (by decide) (want_none rfl) ((run_eq8 rfl (st.argV (j := 0) (aft_of haft (by kernel_rfl)) rfl rfl) rfl).trans (okB (c := false) hc1_1)) rfl
            · intro oo aa ww LL hho hLL haft st; obtain rfl := Option.some.inj hho; exact payW_move st hlast hLL (by decide) (want_none rfl) rfl (st.argV (j := 1) (aft_of haft (by kernel_rfl)) rfl rfl) rfl
            · intro oo aa ww LL hho hLL haft st; obtain rfl := Option.some.inj hho; exact payW_move st hlast hLL (by decide) (st.wantV haft rfl (by kernel_rfl) rfl) rfl (st.outV (by kernel_rfl) e0) rfl
            · intro oo aa ww LL hho hLL haft st; obtain rfl := Option.some.inj hho; exact payW st hlast hLL (by decide) (st.wantV haft rfl (by kernel_rfl) rfl) ((run_eq8 rfl (st.argV (j := 3) (aft_of haft (by kernel_rfl)) rfl rfl) rfl).trans (okB (c := false) hc1_4)) rfl
            · intro oo aa ww LL hho hLL haft st; obtain rfl := Option.some.inj hho; exact payW_pick st hlast hLL (by decide) (want_none rfl) rfl (st.argV (j := 2) (aft_of haft (by kernel_rfl)) rfl rfl) (st.argV (j := 4) (aft_of haft (by kernel_rfl)) rfl rfl) rfl
            · intro oo aa ww LL hho hLL haft st; obtain rfl := Option.some.inj hho; exact payW_move st hlast hLL (by decide) (want_none rfl) rfl (st.argV (j := 5) (aft_of haft (by kernel_rfl)) rfl rfl) rfl
            · intro oo aa ww LL hho hLL haft st; obtain rfl := Option.some.inj hho; exact payW_move st hlast hLL (by decide) (st.wantV haft rfl (by kernel_rfl) rfl) rfl (st.outV (by kernel_rfl) e0) rfl
            · intro oo aa ww LL hho hLL haft st; obtain rfl := Option.some.inj hho; exact payW st hlast hLL (by decide) (st.wantV haft rfl (by kernel_rfl) rfl) ((run_eq8 rfl (st.argV (j := 7) (aft_of haft (by kernel_rfl)) rfl rfl) rfl).trans (okB (c := false) hc1_8)) rfl
            · intro oo aa ww LL hho hLL haft st; obtain rfl := Option.some.inj hho; exact payW_pick st hlast hLL (by decide) (want_none rfl) rfl (st.argV (j := 6) (aft_of haft (by kernel_rfl)) rfl rfl) (st.argV (j := 8) (aft_of haft (by kernel_rfl)) rfl rfl) rfl
            · intro oo aa ww LL hho hLL haft st; obtain rfl := Option.some.inj hho; exact payW_move st hlast hLL (by decide) (want_none rfl) rfl (st.argV (j := 9) (aft_of haft (by kernel_rfl)) rfl rfl) rfl
            · intro oo aa ww LL hho hLL haft st; obtain rfl := Option.some.inj hho; exact payW_move st hlast hLL (by decide) (st.wantV haft rfl (by kernel_rfl) rfl) rfl (st.outV (by kernel_rfl) e0) rfl
            · intro oo aa ww LL hho hLL haft st; obtain rfl := Option.some.inj hho; exact payW st hlast hLL (by decide) (st.wantV haft rfl (by kernel_rfl) rfl) ((run_eq8 rfl (st.argV (j := 11) (aft_of haft (by kernel_rfl)) rfl rfl) rfl).trans (okB (c := true) hc1_12)) rfl
            · intro oo aa ww LL hho hLL haft st; obtain rfl := Option.some.inj hho; exact payW_pick st hlast hLL (by decide) (want_none rfl) rfl (st.argV (j := 10) (aft_of haft (by kernel_rfl)) rfl rfl) (st.argV (j := 12) (aft_of haft (by kernel_rfl)) rfl rfl) rfl
            · intro oo aa ww LL hho hLL haft st; obtain rfl := Option.some.inj hho; exact payW st hlast hLL (by decide) (want_none rfl) (run_assignV rfl (st.argV (j := 13) (aft_of haft (by kernel_rfl)) rfl rfl)) rfl
          clear hlast
          rw [st.end1 (Nat.le_of_eq (by kernel_rfl))]
          have k5 : KeepM 3 [2] a1 a5 := st.keepM (by kernel_rfl)
          have e2 : a5.eval (.tmp 2) = (.bool true) := st.argV (j := 14) (hL 14 (by omega)) rfl rfl
          clear st hL L
          replace e0 := k5.ev e0 (by decide)
          replace hz := k5.size.trans hz
          replace hd := k5.defers.trans hd
          refine wp_ret ?_
          exact post_slot rfl hd (get_of_bool e2) (Ret.b (by unfold isBlank; rw [hc1_1, hc1_4, hc1_8, hc1_12]; try rfl) hB)
        | false =>
          have hlast : lastOk (regOps Tryd.f26 1) 15 = true := by kernel_rfl
          refine region_ws (n := 15) [some (.int .u8 ((c.toNat : Nat) : Int)), some (.bool false), some (.bool false), some (.int .u8 ((c.toNat : Nat) : Int)), some (.bool false), some (.bool false), some (.bool false), some (.int .u8 ((c.toNat : Nat) : Int)), some (.bool false), some (.bool false), some (.bool false), some (.int .u8 ((c.toNat : Nat) : Int)), some (.bool false), some (.bool false), some (.bool false)] 15 w0 w0 (by rw [hz]; kernel_rfl) (by kernel_rfl) (by kernel_rfl) (by kernel_rfl) ?_ fun L a6 w6 hL st => ?_
          · refine ⟨⟨⟨⟨⟨⟨⟨⟨⟨⟨⟨⟨⟨⟨⟨trivial, ?_⟩, ?_⟩, ?_⟩, ?_⟩, ?_⟩, ?_⟩, ?_⟩, ?_⟩, ?_⟩, ?_⟩, ?_⟩, ?_⟩, ?_⟩, ?_⟩, ?_⟩
            · intro oo aa ww LL hho hLL haft st; obtain rfl := Option.some.inj hho; exact payW_move st hlast hLL (by decide) (want_none rfl) rfl (st.outV (by kernel_rfl) e0) rfl
            · intro oo aa ww LL hho hLL haft st; obtain rfl := Option.some.inj hho; exact payW st hlast hLL (by decide) (want_none rfl) ((run_eq8 rfl (st.argV (j := 0) (aft_of haft (by kernel_rfl)) rfl rfl) rfl).trans (okB (c := false) hc1_1)) rfl
            · intro oo aa ww LL hho hLL haft st; obtain rfl := Option.some.inj hho; exact payW_move st hlast hLL (by decide) (want_none rfl) rfl (st.argV (j := 1) (aft_of haft (by kernel_rfl)) rfl rfl) rfl
            · intro oo aa ww LL hho hLL haft st; obtain rfl := Option.some.inj hho; exact payW_move st hlast hLL (by decide) (st.wantV haft rfl (by kernel_rfl) rfl) rfl (st.outV (by kernel_rfl) e0) rfl
            · intro oo aa ww LL hho hLL haft st; obtain rfl := Option.some.inj hho; exact payW st hlast hLL (by decide) (st.wantV haft rfl (by kernel_rfl) rfl) ((run_eq8 rfl (st.argV (j := 3) (aft_of haft (by kernel_rfl)) rfl rfl) rfl).trans (okB (c := false) hc1_4)) rfl
            · intro oo aa ww LL hho hLL haft st; obtain rfl := Option.some.inj hho; exact payW_pick st hlast hLL (by decide) (want_none rfl) rfl (st.argV (j := 2) (aft_of haft (by kernel_rfl)) rfl rfl) (st.argV (j := 4) (aft_of haft (by kernel_rfl)) rfl rfl) rfl
            · intro oo aa ww LL hho hLL haft st; obtain rfl := Option.some.inj hho; exact payW_move st hlast hLL (by decide) (want_none rfl) rfl (st.argV (j := 5) (aft_of haft (by kernel_rfl)) rfl rfl) rfl
            · intro oo aa ww LL hho hLL haft st; obtain rfl := Option.some.inj hho; exact payW_move st hlast hLL (by decide) (st.wantV haft rfl (by kernel_rfl) rfl) rfl (st.outV (by kernel_rfl) e0) rfl
            · intro oo aa ww LL hho hLL haft st; obtain rfl := Option.some.inj hho; exact payW st hlast hLL (by decide) (st.wantV haft rfl (by kernel_rfl) rfl) ((run_eq8 rfl (st.argV (j := 7) (aft_of haft (by kernel_rfl)) rfl rfl) rfl).trans (okB (c := false) hc1_8)) rfl
            · intro oo aa ww LL hho hLL haft st; obtain rfl := Option.some.inj hho; exact payW_pick st hlast hLL (by decide) (want_none rfl) rfl (st.argV (j := 6) (aft_of haft (by kernel_rfl)) rfl rfl) (st.argV (j := 8) (aft_of haft (by kernel_rfl)) rfl rfl) rfl
            · intro oo aa ww LL hho hLL haft st; obtain rfl := Option.some.inj hho; exact payW_move st hlast hLL (by decide) (want_none rfl) rfl (st.argV (j := 9) (aft_of haft (by kernel_rfl)) rfl rfl) rfl
            · intro oo aa ww LL hho hLL haft st; obtain rfl := Option.some.inj hho; exact payW_move st hlast hLL (by decide) (st.wantV haft rfl (by kernel_rfl) rfl) rfl (st.outV (by kernel_rfl) e0) rfl
            · intro oo aa ww LL hho hLL haft st; obtain rfl := Option.some.inj hho; exact payW st hlast hLL (by decide) (st.wantV haft rfl (by kernel_rfl) rfl) ((run_eq8 rfl (st.argV (j := 11) (aft_of haft (by kernel_rfl)) rfl rfl) rfl).trans (okB (c := false) hc1_12)) rfl
            · intro oo aa ww LL hho hLL haft st; obtain rfl := Option.some.inj hho; exact payW_pick st hlast hLL (by decide) (want_none rfl) rfl (st.argV (j := 10) (aft_of haft (by kernel_rfl)) rfl rfl) (st.argV (j := 12) (aft_of haft (by kernel_rfl)) rfl rfl) rfl
            · intro oo aa ww LL hho hLL haft st; obtain rfl := Option.some.inj hho; exact payW st hlast hLL (by decide) (want_none rfl) (run_assignV rfl (st.argV (j := 13) (aft_of haft (by kernel_rfl)) rfl rfl)) rfl
          clear hlast
          rw [st.end1 (Nat.le_of_eq (by kernel_rfl))]
          have k6 : KeepM 3 [2] a1 a6 := st.keepM (by kernel_rfl)
          have e2 : a6.eval (.tmp 2) = (.bool false) := st.argV (j := 14) (hL 14 (by omega)) rfl rfl
          clear st hL L
          replace e0 := k6.ev e0 (by decide)
          replace hz := k6.size.trans hz
          replace hd := k6.defers.trans hd
          refine wp_ret ?_
          exact post_slot rfl hd (get_of_bool e2) (Ret.b (by unfold isBlank; rw [hc1_1, hc1_4, hc1_8, hc1_12]; try rfl) hB)
theorem en_ref_blank : Enters Tryd.prog 26 := enters_of Tryd.func26 (by kernel_rfl) rfl
end Go.Proofs.YtbcfggdifljacaaDoor
