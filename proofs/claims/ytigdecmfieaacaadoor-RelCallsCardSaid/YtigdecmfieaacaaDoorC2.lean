/-
  The document's answers for layer 1: alike, And, Less, Only, Turn.
-/
import Derived.Test.YtigdecmfieaacaaDoorC1
namespace Go.Proofs.YtigdecmfieaacaaDoor
open Go Go.RowKit

theorem call_1V {ops : Array Oper} {Q : Exit → Act → World → Prop} {sps : List Sp} {a0 : Act} {w0 : World} {L : Nat → Bool} {i : Nat} {o : Oper} {a : Act} {w : World} {f : FuncId} {x : Operand} {ts : Array TypeId} {u v : Value} (he : Enters Tryd.prog f) (st : St ops (TS sps) (GB w0) a0 L a w) (hw : Region.wanted o (yielded ops a.tmps) = true)
    (hop : o.op = .call { callee := .value (.func f), args := #[x], argTypes := ts }) (hx : a.eval x = u) (C : ∀ w', Below w0.heap.size w0 w' → Calls Tryd.prog f #[u] w' (Ret w' v)) (hsp : sps.getD i .top = .val v) : Owes Tryd.prog ops Q (TS sps) (GB w0) L i o a w :=
  pay_call st hw he hop (by simp [hx]) hsp rfl ((C w st.g).mono fun _ _ h => ret_holds h)
set_option maxRecDepth 100000 in
theorem alike_r4a {Q : Exit → Act → World → Prop} {a0 : Act} {w0 : World} {g n k : Nat} {cs : List Value} {x : RA} (hsz : a0.tmps.size = 31) (h0 : a0.tmps[0]? = some (.slice (some ⟨g, 0, none⟩) n n)) (h3 : a0.tmps[3]? = some (.int .i64 ((k : Nat) : Int))) (hk : k < n) (hL : RowT w0 g 26 cs)
    (hx0 : w0.cell? ⟨g, k * 2, none⟩ = some (.int .i64 x.n)) (hx1 : w0.cell? ⟨g, k * 2 + 1, none⟩ = some (.slice x.A x.rows.length x.cap)) (hgx : x.good w0) (hc : (chk x.pr.n x.pr.rows != 0) = true)
    (hK : ∀ a w, KeepM 4 [] a0 a → a.eval (.tmp 27) = .bool true → Below w0.heap.size w0 w → Q .normal a w) : (Code.region 4 (regOps Tryd.f56 4) true).wp Tryd.prog Q a0 w0 := by
  refine region_ts (n := 18) [Sp.val (.slice (some ⟨g, 0, none⟩) n n), Sp.val (.int .i64 ((k : Nat) : Int)), Sp.val (.pointer (some ⟨g, k * 2, none⟩)), Sp.val (.agg #[.int .i64 x.n, .slice x.A x.rows.length x.cap]), Sp.val (.int .i64 (chk x.pr.n x.pr.rows)), Sp.val (.bool true), Sp.val (.bool true), Sp.top, Sp.top, Sp.top, Sp.top, Sp.top, Sp.top, Sp.top, Sp.top, Sp.top, Sp.top, Sp.val (.bool true)] w0 (by kernel_rfl) (by rw [hsz]; kernel_rfl) (by kernel_rfl) (by kernel_rfl) (by kernel_rfl) (by kernel_rfl) ?steps ?fin
  case steps =>
    refine ⟨⟨⟨⟨⟨⟨⟨⟨⟨⟨⟨⟨⟨⟨⟨⟨⟨⟨trivial, ?s0⟩, ?s1⟩, ?s2⟩, ?s3⟩, ?s4⟩, ?s5⟩, ?s6⟩, ?s7⟩, ?s8⟩, ?s9⟩, ?s10⟩, ?s11⟩, ?s12⟩, ?s13⟩, ?s14⟩, ?s15⟩, ?s16⟩, ?s17⟩
    case s0 =>
      intro o a w L ho hL' haft st
      obtain rfl := Option.some.inj ho
      exact pay_move st (want_none rfl) rfl (show Sp.holds (Sp.val (.slice (some ⟨g, 0, none⟩) n n)) _ _ _ from (st.out (by kernel_rfl) h0)) rfl rfl
    case s1 =>
      intro o a w L ho hL' haft st
      obtain rfl := Option.some.inj ho
      exact pay_move st (want_none rfl) rfl (show Sp.holds (Sp.val (.int .i64 ((k : Nat) : Int))) _ _ _ from (st.out (by kernel_rfl) h3)) rfl rfl
    case s2 =>
      intro o a w L ho hL' haft st
      obtain rfl := Option.some.inj ho
      exact pay_run st (want_none rfl) (run_ixR (k := k) rfl (st.arg (j := 0) (aft_of haft (by kernel_rfl)) rfl rfl) (st.arg (j := 1) (aft_of haft (by kernel_rfl)) rfl rfl) hk) rfl
    case s3 =>
      intro o a w L ho hL' haft st
      obtain rfl := Option.some.inj ho
      exact pay_run st (want_none rfl) (run_ldR rfl (st.arg (j := 2) (aft_of haft (by kernel_rfl)) rfl rfl) ((st.g.cell (p := ⟨g, k * 2, none⟩) hL.lt).trans hx0) ((st.g.cell (p := ⟨g, k * 2 + 1, none⟩) hL.lt).trans hx1)) rfl
    case s4 =>
      intro o a w L ho hL' haft st
      obtain rfl := Option.some.inj ho
      exact call_1V en_rCheck st (want_none rfl) rfl (st.arg (j := 3) (aft_of haft (by kernel_rfl)) rfl rfl) (fun w2 hb => rcheck_any x.n x.A x.cap x.rows w2 (hgx.on hb).1 (hgx.on hb).2) rfl
    case s5 =>
      intro o a w L ho hL' haft st
      obtain rfl := Option.some.inj ho
      exact pay_run st (want_none rfl) ((run_neE rfl (st.arg (j := 4) (aft_of haft (by kernel_rfl)) rfl rfl) rfl).trans (okB hc)) rfl
    case s6 =>
      intro o a w L ho hL' haft st
      obtain rfl := Option.some.inj ho
      exact pay_move st (want_none rfl) rfl (show Sp.holds (Sp.val (.bool true)) _ _ _ from (st.arg (j := 5) (aft_of haft (by kernel_rfl)) rfl rfl)) rfl rfl
    case s7 =>
      intro o a w L ho hL' haft st
      obtain rfl := Option.some.inj ho
      exact st.skip haft rfl (by kernel_rfl) rfl rfl
    case s8 =>
      intro o a w L ho hL' haft st
      obtain rfl := Option.some.inj ho
      exact st.skip haft rfl (by kernel_rfl) rfl rfl
    case s9 =>
      intro o a w L ho hL' haft st
      obtain rfl := Option.some.inj ho
      exact st.skip haft rfl (by kernel_rfl) rfl rfl
    case s10 =>
      intro o a w L ho hL' haft st
      obtain rfl := Option.some.inj ho
      exact st.skip haft rfl (by kernel_rfl) rfl rfl
    case s11 =>
      intro o a w L ho hL' haft st
      obtain rfl := Option.some.inj ho
      exact st.skip haft rfl (by kernel_rfl) rfl rfl
    case s12 =>
      intro o a w L ho hL' haft st
      obtain rfl := Option.some.inj ho
      exact st.skip haft rfl (by kernel_rfl) rfl rfl
    case s13 =>
      intro o a w L ho hL' haft st
      obtain rfl := Option.some.inj ho
      exact st.skip haft rfl (by kernel_rfl) rfl rfl
    case s14 =>
      intro o a w L ho hL' haft st
      obtain rfl := Option.some.inj ho
      exact st.skip haft rfl (by kernel_rfl) rfl rfl
    case s15 =>
      intro o a w L ho hL' haft st
      obtain rfl := Option.some.inj ho
      exact st.skip haft rfl (by kernel_rfl) rfl rfl
    case s16 =>
      intro o a w L ho hL' haft st
      obtain rfl := Option.some.inj ho
      exact st.skip haft rfl (by kernel_rfl) rfl rfl
    case s17 =>
      intro o a w L ho hL' haft st
      obtain rfl := Option.some.inj ho
      exact pay_pick st (want_none rfl) rfl (st.arg (j := 6) (aft_of haft (by kernel_rfl)) rfl rfl) (show Sp.holds (Sp.val (.bool true)) _ _ _ from rfl) rfl rfl
  case fin =>
    intro L a w hL2 st
    exact hK a w (st.keepM (by kernel_rfl)) (st.arg (j := 17) (hL2 17 (by omega)) rfl rfl) st.g
set_option maxRecDepth 100000 in
theorem alike_r4b {Q : Exit → Act → World → Prop} {a0 : Act} {w0 : World} {g n k : Nat} {cs : List Value} {x : RA} (hsz : a0.tmps.size = 31) (h0 : a0.tmps[0]? = some (.slice (some ⟨g, 0, none⟩) n n)) (h3 : a0.tmps[3]? = some (.int .i64 ((k : Nat) : Int))) (hk : k < n) (hL : RowT w0 g 26 cs)
    (hx0 : w0.cell? ⟨g, k * 2, none⟩ = some (.int .i64 x.n)) (hx1 : w0.cell? ⟨g, k * 2 + 1, none⟩ = some (.slice x.A x.rows.length x.cap)) (hgx : x.good w0) {y : RA} {t : Bool} (hc : (chk x.pr.n x.pr.rows != 0) = false) (hy0 : w0.cell? ⟨g, 0 * 2, none⟩ = some (.int .i64 y.n)) (hn : (x.n != y.n) = t)
    (hK : ∀ a w, KeepM 4 [] a0 a → a.eval (.tmp 27) = .bool t → Below w0.heap.size w0 w → Q .normal a w) : (Code.region 4 (regOps Tryd.f56 4) true).wp Tryd.prog Q a0 w0 := by
  refine region_ts (n := 18) [Sp.val (.slice (some ⟨g, 0, none⟩) n n), Sp.val (.int .i64 ((k : Nat) : Int)), Sp.val (.pointer (some ⟨g, k * 2, none⟩)), Sp.val (.agg #[.int .i64 x.n, .slice x.A x.rows.length x.cap]), Sp.val (.int .i64 (chk x.pr.n x.pr.rows)), Sp.val (.bool false), Sp.val (.bool false), Sp.val (.slice (some ⟨g, 0, none⟩) n n), Sp.val (.int .i64 ((k : Nat) : Int)), Sp.val (.pointer (some ⟨g, k * 2, none⟩)), Sp.val (.pointer (some ⟨g, k * 2, none⟩)), Sp.val (.int .i64 x.n), Sp.val (.slice (some ⟨g, 0, none⟩) n n), Sp.val (.pointer (some ⟨g, 0 * 2, none⟩)), Sp.val (.pointer (some ⟨g, 0 * 2, none⟩)), Sp.val (.int .i64 y.n), Sp.val (.bool t), Sp.val (.bool t)] w0 (by kernel_rfl) (by rw [hsz]; kernel_rfl) (by kernel_rfl) (by kernel_rfl) (by kernel_rfl) (by kernel_rfl) ?steps ?fin
  case steps =>
    refine ⟨⟨⟨⟨⟨⟨⟨⟨⟨⟨⟨⟨⟨⟨⟨⟨⟨⟨trivial, ?s0⟩, ?s1⟩, ?s2⟩, ?s3⟩, ?s4⟩, ?s5⟩, ?s6⟩, ?s7⟩, ?s8⟩, ?s9⟩, ?s10⟩, ?s11⟩, ?s12⟩, ?s13⟩, ?s14⟩, ?s15⟩, ?s16⟩, ?s17⟩
    case s0 =>
      intro o a w L ho hL' haft st
      obtain rfl := Option.some.inj ho
      exact pay_move st (want_none rfl) rfl (show Sp.holds (Sp.val (.slice (some ⟨g, 0, none⟩) n n)) _ _ _ from (st.out (by kernel_rfl) h0)) rfl rfl
    case s1 =>
      intro o a w L ho hL' haft st
      obtain rfl := Option.some.inj ho
      exact pay_move st (want_none rfl) rfl (show Sp.holds (Sp.val (.int .i64 ((k : Nat) : Int))) _ _ _ from (st.out (by kernel_rfl) h3)) rfl rfl
    case s2 =>
      intro o a w L ho hL' haft st
      obtain rfl := Option.some.inj ho
      exact pay_run st (want_none rfl) (run_ixR (k := k) rfl (st.arg (j := 0) (aft_of haft (by kernel_rfl)) rfl rfl) (st.arg (j := 1) (aft_of haft (by kernel_rfl)) rfl rfl) hk) rfl
    case s3 =>
      intro o a w L ho hL' haft st
      obtain rfl := Option.some.inj ho
      exact pay_run st (want_none rfl) (run_ldR rfl (st.arg (j := 2) (aft_of haft (by kernel_rfl)) rfl rfl) ((st.g.cell (p := ⟨g, k * 2, none⟩) hL.lt).trans hx0) ((st.g.cell (p := ⟨g, k * 2 + 1, none⟩) hL.lt).trans hx1)) rfl
    case s4 =>
      intro o a w L ho hL' haft st
      obtain rfl := Option.some.inj ho
      exact call_1V en_rCheck st (want_none rfl) rfl (st.arg (j := 3) (aft_of haft (by kernel_rfl)) rfl rfl) (fun w2 hb => rcheck_any x.n x.A x.cap x.rows w2 (hgx.on hb).1 (hgx.on hb).2) rfl
    case s5 =>
      intro o a w L ho hL' haft st
      obtain rfl := Option.some.inj ho
      exact pay_run st (want_none rfl) ((run_neE rfl (st.arg (j := 4) (aft_of haft (by kernel_rfl)) rfl rfl) rfl).trans (okB hc)) rfl
    case s6 =>
      intro o a w L ho hL' haft st
      obtain rfl := Option.some.inj ho
      exact pay_move st (want_none rfl) rfl (show Sp.holds (Sp.val (.bool false)) _ _ _ from (st.arg (j := 5) (aft_of haft (by kernel_rfl)) rfl rfl)) rfl rfl
    case s7 =>
      intro o a w L ho hL' haft st
      obtain rfl := Option.some.inj ho
      exact pay_move st (st.want haft rfl (by kernel_rfl) rfl) rfl (show Sp.holds (Sp.val (.slice (some ⟨g, 0, none⟩) n n)) _ _ _ from (st.out (by kernel_rfl) h0)) rfl rfl
    case s8 =>
      intro o a w L ho hL' haft st
      obtain rfl := Option.some.inj ho
      exact pay_move st (st.want haft rfl (by kernel_rfl) rfl) rfl (show Sp.holds (Sp.val (.int .i64 ((k : Nat) : Int))) _ _ _ from (st.out (by kernel_rfl) h3)) rfl rfl
    case s9 =>
      intro o a w L ho hL' haft st
      obtain rfl := Option.some.inj ho
      exact pay_run st (st.want haft rfl (by kernel_rfl) rfl) (run_ixR (k := k) rfl (st.arg (j := 7) (aft_of haft (by kernel_rfl)) rfl rfl) (st.arg (j := 8) (aft_of haft (by kernel_rfl)) rfl rfl) hk) rfl
    case s10 =>
      intro o a w L ho hL' haft st
      obtain rfl := Option.some.inj ho
      exact pay_run st (st.want haft rfl (by kernel_rfl) rfl) (run_fp0 rfl (st.arg (j := 9) (aft_of haft (by kernel_rfl)) rfl rfl)) rfl
    case s11 =>
      intro o a w L ho hL' haft st
      obtain rfl := Option.some.inj ho
      exact pay_run st (st.want haft rfl (by kernel_rfl) rfl) (run_ldI rfl (st.arg (j := 10) (aft_of haft (by kernel_rfl)) rfl rfl) ((st.g.cell (p := ⟨g, k * 2, none⟩) hL.lt).trans hx0)) rfl
    case s12 =>
      intro o a w L ho hL' haft st
      obtain rfl := Option.some.inj ho
      exact pay_move st (st.want haft rfl (by kernel_rfl) rfl) rfl (show Sp.holds (Sp.val (.slice (some ⟨g, 0, none⟩) n n)) _ _ _ from (st.out (by kernel_rfl) h0)) rfl rfl
    case s13 =>
      intro o a w L ho hL' haft st
      obtain rfl := Option.some.inj ho
      exact pay_run st (st.want haft rfl (by kernel_rfl) rfl) (run_ixR (k := 0) rfl (st.arg (j := 12) (aft_of haft (by kernel_rfl)) rfl rfl) rfl (by omega)) rfl
    case s14 =>
      intro o a w L ho hL' haft st
      obtain rfl := Option.some.inj ho
      exact pay_run st (st.want haft rfl (by kernel_rfl) rfl) (run_fp0 rfl (st.arg (j := 13) (aft_of haft (by kernel_rfl)) rfl rfl)) rfl
    case s15 =>
      intro o a w L ho hL' haft st
      obtain rfl := Option.some.inj ho
      exact pay_run st (st.want haft rfl (by kernel_rfl) rfl) (run_ldI rfl (st.arg (j := 14) (aft_of haft (by kernel_rfl)) rfl rfl) ((st.g.cell (p := ⟨g, 0 * 2, none⟩) hL.lt).trans hy0)) rfl
    case s16 =>
      intro o a w L ho hL' haft st
      obtain rfl := Option.some.inj ho
      exact pay_run st (st.want haft rfl (by kernel_rfl) rfl) ((run_neI rfl (st.arg (j := 11) (aft_of haft (by kernel_rfl)) rfl rfl) (st.arg (j := 15) (aft_of haft (by kernel_rfl)) rfl rfl)).trans (okB hn)) rfl
    case s17 =>
      intro o a w L ho hL' haft st
      obtain rfl := Option.some.inj ho
      exact pay_pick st (want_none rfl) rfl (st.arg (j := 6) (aft_of haft (by kernel_rfl)) rfl rfl) (show Sp.holds (Sp.val (.bool t)) _ _ _ from (st.arg (j := 16) (aft_of haft (by kernel_rfl)) rfl rfl)) rfl rfl
  case fin =>
    intro L a w hL2 st
    exact hK a w (st.keepM (by kernel_rfl)) (st.arg (j := 17) (hL2 17 (by omega)) rfl rfl) st.g
theorem get_of_slice {a : Act} {s : Tmp} {A : Option Addr} {n c : Nat} (h : a.eval (.tmp s) = .slice A n c) : a.tmps[s]? = some (.slice A n c) := by
  have h' : a.tmps.getD s undef = .slice A n c := h
  rw [Array.getD_eq_getD_getElem?] at h'
  cases e : a.tmps[s]? with
  | none => rw [e] at h'; cases h'
  | some v => rw [e] at h'; obtain rfl : v = .slice A n c := h'; rfl
theorem get_of_int {a : Act} {s : Tmp} {k : IntKind} {n : Int} (h : a.eval (.tmp s) = .int k n) : a.tmps[s]? = some (.int k n) := by
  have h' : a.tmps.getD s undef = .int k n := h
  rw [Array.getD_eq_getD_getElem?] at h'
  cases e : a.tmps[s]? with
  | none => rw [e] at h'; cases h'
  | some v => rw [e] at h'; obtain rfl : v = .int k n := h'; rfl
theorem chk_yes {x : RA} (h : x.ok = true) : chk x.pr.n x.pr.rows = 0 := by unfold chk; exact if_pos h
theorem chk_not {x : RA} (h : x.ok = false) : chk x.pr.n x.pr.rows = 2 := by
  unfold chk; exact if_neg (fun e => by rw [show okR x.pr.n x.pr.rows = x.ok from rfl, h] at e; cases e)
theorem alike_more {L : List RA} {k : Nat} {x : RA} (hx : L[k]? = some x) (ho : x.ok = true) (hn : ∀ b ∈ L.head?, x.n = b.n) (hall : ∀ b ∈ L.take k, b.ok = true ∧ ∀ a ∈ L.head?, b.n = a.n) : ∀ b ∈ L.take (k + 1), b.ok = true ∧ ∀ a ∈ L.head?, b.n = a.n := by
  intro b hb
  rw [List.take_add_one, hx] at hb
  rcases List.mem_append.1 hb with h | h
  · exact hall b h
  · obtain rfl : b = x := by simpa using h
    exact ⟨ho, hn⟩
set_option maxRecDepth 100000 in
set_option maxHeartbeats 4000000 in
theorem ralike_c (L : List RA) (g n : Nat) (w0 : World) (hn : L.length = n) (hlen : n < 1000) (hL : RowT w0 g 26 (L.flatMap RA.cells)) (hg : ∀ a ∈ L, a.good w0) :
    Calls Tryd.prog 56 #[.slice (some ⟨g, 0, none⟩) n n] w0 (Ret w0 (.bool (Palike (L.map RA.pr)))) := by
  refine calls_of_wp Tryd.func56 rfl ?_
  obtain ⟨hz, e0⟩ := start_act1 31 (.slice (some ⟨g, 0, none⟩) n n) (by decide)
  have hd : ({ tmps := #[(.slice (some ⟨g, 0, none⟩) n n : Value)] ++ Array.replicate (31 - 1) undef, defers := [] } : Act).defers = [] := rfl
  rw [show Tryd.f56.ntmps - (#[(.slice (some ⟨g, 0, none⟩) n n : Value)] : Array Value).size = 31 - 1 from rfl]
  generalize ({ tmps := #[(.slice (some ⟨g, 0, none⟩) n n : Value)] ++ Array.replicate (31 - 1) undef, defers := [] } : Act) = a0 at hz e0 hd ⊢
  refine wp_seq ?_
  refine seq_startL (l := [0]) (by kernel_rfl) ?_
  refine seq_assign 2 (v := (.bool false)) rfl rfl rfl rfl rfl ?_
  refine seq_nil ?_
  refine seq_out ((KeepM.refl 4 [2] a0).put (by decide)) fun a1 k1 tr => ?_
  have f2 := tr 2 (.bool false) (ev_same (by first | (rw [hz]; decide) | (simp only [size_put, hz]; decide)))
  clear tr
  replace e0 := k1.ev e0 (by decide)
  replace hz := k1.size.trans hz
  replace hd := k1.defers.trans hd
  have e2 := f2
  clear f2
  refine wp_seq ?_
  refine wp_seq ?_
  refine seq_startL (l := [0]) (by kernel_rfl) ?_
  refine seq_assign 3 (v := (.int .i64 0)) rfl rfl rfl rfl rfl ?_
  refine seq_nil ?_
  refine seq_out ((KeepM.refl 4 [3] a1).put (by decide)) fun a2 k2 tr => ?_
  have f3 := tr 3 (.int .i64 0) (ev_same (by first | (rw [hz]; decide) | (simp only [size_put, hz]; decide)))
  clear tr
  replace e0 := k2.ev e0 (by decide)
  replace e2 := k2.ev e2 (by decide)
  replace hz := k2.size.trans hz
  replace hd := k2.defers.trans hd
  have e3 := f3
  clear f3
  refine wp_block ?_
  refine wp_loop (fun a' W => ∃ k, k ≤ n ∧ KeepM 4 [3] a2 a' ∧ a'.eval (.tmp 3) = .int .i64 ((k : Nat) : Int) ∧ Below w0.heap.size w0 W ∧ (∀ x ∈ L.take k, x.ok = true ∧ ∀ y ∈ L.head?, x.n = y.n)) (fun a' _ => n - (intOf (a'.eval (.tmp 3))).toNat) ⟨0, Nat.zero_le _, KeepM.refl _ _ _, e3, Below.refl _ _, by simp⟩ ?_
  rintro aL W ⟨k, hk, kk, h3, hB, hall⟩
  replace e0 := kk.ev e0 (by decide)
  replace hz := kk.size.trans hz
  replace hd := kk.defers.trans hd
  clear e3 e2
  have e3 := h3
  have h3s := h3
  clear h3
  refine wp_seq ?_
  refine wp_seq ?_
  refine seq_startL (l := [0, 1, 2, 3]) (by kernel_rfl) ?_
  refine seq_move 4 (v := (.int .i64 ((k : Nat) : Int))) rfl rfl rfl rfl e3 ?_
  refine seq_move 5 (v := (.slice (some ⟨g, 0, none⟩) n n)) rfl rfl rfl rfl ((ev_ne (by decide)).trans e0) ?_
  refine seq_valD 6 (v := (.int .i64 ((n : Nat) : Int))) rfl rfl rfl (run_lenR rfl (ev_same (by first | (rw [hz]; decide) | (simp only [size_put, hz]; decide)))) ?_
  refine seq_valD 7 (v := (.bool (decide (((k : Nat) : Int) < ((n : Nat) : Int))))) rfl rfl rfl (run_ltI rfl ((ev_ne (by decide)).trans ((ev_ne (by decide)).trans (ev_same (by first | (rw [hz]; decide) | (simp only [size_put, hz]; decide))))) (ev_same (by first | (rw [hz]; decide) | (simp only [size_put, hz]; decide)))) ?_
  refine seq_nil ?_
  refine seq_out (((((KeepM.refl 4 [] aL).put (by decide)).put (by decide)).put (by decide)).put (by decide)) fun a3 k3 tr => ?_
  have f7 := tr 7 (.bool (decide (((k : Nat) : Int) < ((n : Nat) : Int)))) (ev_same (by first | (rw [hz]; decide) | (simp only [size_put, hz]; decide)))
  clear tr
  replace e0 := k3.ev e0 (by decide)
  replace e3 := k3.ev e3 (by decide)
  replace hz := k3.size.trans hz
  replace hd := k3.defers.trans hd
  replace kk := kk.trans (k3.mono (ys := [3]) (by decide))
  have e7 := f7
  clear f7
  by_cases hlt : k < n
  · rw [decide_eq_true (by omega)] at e7
    refine wp_cond_true e7 ?_
    refine wp_skip ?_
    refine wp_seq ?_
    refine wp_block ?_
    refine wp_seq ?_
    obtain ⟨x, hx⟩ : ∃ x, L[k]? = some x := ⟨_, List.getElem?_eq_getElem (by omega)⟩
    obtain ⟨y, hy⟩ : ∃ y, L[0]? = some y := ⟨_, List.getElem?_eq_getElem (by omega)⟩
    have hLW := hL.below hB hL.lt
    obtain ⟨hx0, hx1⟩ := cells_get L k x hx
    obtain ⟨hy0, _⟩ := cells_get L 0 y hy
    have hxm := List.mem_of_getElem? hx
    have hgx := (hg x hxm).on hB
    cases hxo : x.ok with
    | false =>
      refine alike_r4a hz (get_of_slice e0) (get_of_int e3) hlt hLW ((hLW.cell _).trans hx0) ((hLW.cell _).trans hx1) hgx (by rw [chk_not hxo]; rfl) fun a9 w9 k9 f27 hb9 => ?_
      refine wp_cond_true f27 ?_
      replace hz := k9.size.trans hz
      replace hd := k9.defers.trans hd
      replace hB := Below.next hB hb9
      refine wp_seq ?_
      refine seq_startL (l := [0]) (by kernel_rfl) ?_
      refine seq_assign 2 (v := (.bool false)) rfl rfl rfl rfl rfl ?_
      refine seq_nil ?_
      refine seq_out ((KeepM.refl 4 [2] a9).put (by decide)) fun a4 k4 tr => ?_
      have f2 := tr 2 (.bool false) (ev_same (by first | (rw [hz]; decide) | (simp only [size_put, hz]; decide)))
      clear tr
      replace hz := k4.size.trans hz
      replace hd := k4.defers.trans hd
      have e2 := f2
      clear f2
      refine wp_ret ?_
      exact post_slot rfl hd (get_of_bool e2) (Ret.b (by rw [← alike_pr, alike_no2 hx hxo]) hB)
    | true =>
      refine alike_r4b (y := y) (t := decide (x.n ≠ y.n)) hz (get_of_slice e0) (get_of_int e3) hlt hLW ((hLW.cell _).trans hx0) ((hLW.cell _).trans hx1) hgx (by rw [chk_yes hxo]; rfl) ((hLW.cell _).trans hy0) (by by_cases e : x.n = y.n <;> simp [e]) fun a9 w9 k9 f27 hb9 => ?_
      have e3a := k9.ev e3 (by decide)
      replace kk := kk.trans (k9.mono (ys := [3]) (by decide))
      replace hz := k9.size.trans hz
      replace hd := k9.defers.trans hd
      replace hB := Below.next hB hb9
      clear e3 e0
      have e3 := e3a
      by_cases hne : x.n = y.n
      · rw [decide_eq_false (fun h => h hne)] at f27
        refine wp_cond_false f27 ?_
        refine wp_skip ?_
        refine seq_startL (l := [0, 1, 2]) (by kernel_rfl) ?_
        refine seq_move 8 (v := (.int .i64 ((k : Nat) : Int))) rfl rfl rfl rfl e3 ?_
        refine seq_valD 9 (v := (.int .i64 ((k + 1 : Nat) : Int))) rfl rfl rfl (run_incI rfl (ev_same (by first | (rw [hz]; decide) | (simp only [size_put, hz]; decide))) rfl (by omega)) ?_
        refine seq_assign 3 (v := (.int .i64 ((k + 1 : Nat) : Int))) rfl rfl rfl rfl (ev_same (by first | (rw [hz]; decide) | (simp only [size_put, hz]; decide))) ?_
        refine seq_nil ?_
        refine seq_out ((((KeepM.refl 4 [3] a9).put (by decide)).put (by decide)).put (by decide)) fun a5 k5 tr => ?_
        have f3 := tr 3 (.int .i64 ((k + 1 : Nat) : Int)) (ev_same (by first | (rw [hz]; decide) | (simp only [size_put, hz]; decide)))
        clear tr
        replace hz := k5.size.trans hz
        replace hd := k5.defers.trans hd
        replace kk := kk.trans (k5.mono (ys := [3]) (by decide))
        have e3 := f3
        clear f3
        refine ⟨⟨k + 1, by omega, kk, e3, hB, ?_⟩, ?_⟩
        · exact alike_more hx hxo (alike_head hy hne) hall
        · rw [e3, (show aL.eval (.tmp 3) = _ from h3s)]; simp [intOf]; omega
      · rw [decide_eq_true hne] at f27
        refine wp_cond_true f27 ?_
        refine wp_seq ?_
        refine seq_startL (l := [0]) (by kernel_rfl) ?_
        refine seq_assign 2 (v := (.bool false)) rfl rfl rfl rfl rfl ?_
        refine seq_nil ?_
        refine seq_out ((KeepM.refl 4 [2] a9).put (by decide)) fun a6 k6 tr => ?_
        have f2 := tr 2 (.bool false) (ev_same (by first | (rw [hz]; decide) | (simp only [size_put, hz]; decide)))
        clear tr
        replace hz := k6.size.trans hz
        replace hd := k6.defers.trans hd
        have e2 := f2
        clear f2
        refine wp_ret ?_
        exact post_slot rfl hd (get_of_bool e2) (Ret.b (by rw [← alike_pr, alike_no1 hx hy hne]) hB)
  · rw [decide_eq_false (by omega)] at e7
    refine wp_cond_false e7 ?_
    refine wp_exit ?_
    refine exit_here1 (id := 0) ?_
    obtain rfl : n = k := by omega
    refine wp_seq ?_
    refine seq_startL (l := [0, 1, 2, 3]) (by kernel_rfl) ?_
    refine seq_move 28 (v := (.slice (some ⟨g, 0, none⟩) n n)) rfl rfl rfl rfl e0 ?_
    refine seq_valD 29 (v := (.int .i64 ((n : Nat) : Int))) rfl rfl rfl (run_lenR rfl (ev_same (by first | (rw [hz]; decide) | (simp only [size_put, hz]; decide)))) ?_
    refine seq_valD 30 (v := (.bool (decide (0 < n)))) rfl rfl rfl ((run_gtI rfl (ev_same (by first | (rw [hz]; decide) | (simp only [size_put, hz]; decide))) rfl).trans (okB (c := (decide (0 < n))) (by simp))) ?_
    refine seq_assign 2 (v := (.bool (decide (0 < n)))) rfl rfl rfl rfl (ev_same (by first | (rw [hz]; decide) | (simp only [size_put, hz]; decide))) ?_
    refine seq_nil ?_
    refine seq_out (((((KeepM.refl 4 [2] a3).put (by decide)).put (by decide)).put (by decide)).put (by decide)) fun a7 k7 tr => ?_
    have f2 := tr 2 (.bool (decide (0 < n))) (ev_same (by first | (rw [hz]; decide) | (simp only [size_put, hz]; decide)))
    clear tr
    replace e0 := k7.ev e0 (by decide)
    replace e3 := k7.ev e3 (by decide)
    replace hz := k7.size.trans hz
    replace hd := k7.defers.trans hd
    have e2 := f2
    clear f2
    refine wp_ret ?_
    refine post_slot rfl hd (get_of_bool e2) (Ret.b ?_ hB)
    rw [← alike_pr]; congr 1
    cases L with
    | nil => obtain rfl : n = 0 := hn.symm; rfl
    | cons b L => rw [alike_yes (by rw [hn]; exact hall) (by simp)]; simp at hn ⊢; omega
end Go.Proofs.YtigdecmfieaacaaDoor
namespace Go.Proofs.YtigdecmfieaacaaDoor
open Go Go.RowKit

theorem en_alike : Enters Tryd.prog 56 := enters_of Tryd.func56 (by kernel_rfl) rfl
theorem ralike2 {a b : RA} {t : Bool} {g : Nat} (w : World) (h : Palike [a.pr, b.pr] = t) (hL : RowT w g 26 ([a, b].flatMap RA.cells)) (ha : a.good w) (hb : b.good w) : Calls Tryd.prog 56 #[.slice (some ⟨g, 0, none⟩) 2 2] w (Ret w (.bool t)) := by
  subst h
  exact ralike_c [a, b] g 2 w rfl (by omega) hL (by
    intro c hc
    rcases List.mem_cons.1 hc with rfl | hc
    · exact ha
    · rw [List.mem_singleton.1 hc]; exact hb)
theorem get_u {rows : List Nat} (h : ∀ x ∈ rows, x < 18446744073709551616) (i : Nat) : rows.getD i 0 < 18446744073709551616 := getD_u h i
set_option maxRecDepth 100000 in
set_option maxHeartbeats 4000000 in
theorem rAnd_ok (a b : RA) (N : Nat) (w0 : World) (ha : a.good w0) (hb : b.good w0) (hal : Palike [a.pr, b.pr] = true) (hna : a.n = (N : Nat)) (hnb : b.n = (N : Nat)) (hla : a.rows.length = N) (hlb : b.rows.length = N) (h64 : N ≤ 64) :
    Calls Tryd.prog 37 #[a.val, b.val] w0 (RetR w0 ⟨((N : Nat) : Int), (List.range N).map fun i => a.rows.getD i 0 &&& b.rows.getD i 0⟩) := by
  have hav : a.val = (.agg #[.int .i64 ((N : Nat) : Int), .slice a.A N a.cap]) := by unfold RA.val; rw [hna, hla]
  have hbv : b.val = (.agg #[.int .i64 ((N : Nat) : Int), .slice b.A N b.cap]) := by unfold RA.val; rw [hnb, hlb]
  rw [hav, hbv]
  refine calls_of_wp Tryd.func37 rfl ?_
  obtain ⟨hz, e0, e1⟩ := start_act2 38 ((.agg #[.int .i64 ((N : Nat) : Int), .slice a.A N a.cap])) ((.agg #[.int .i64 ((N : Nat) : Int), .slice b.A N b.cap])) (by decide)
  have hd : ({ tmps := #[(.agg #[.int .i64 ((N : Nat) : Int), .slice a.A N a.cap]), (.agg #[.int .i64 ((N : Nat) : Int), .slice b.A N b.cap])] ++ Array.replicate (38 - 2) undef, defers := [] } : Act).defers = [] := rfl
  rw [show Tryd.f37.ntmps - (#[(.agg #[.int .i64 ((N : Nat) : Int), .slice a.A N a.cap]), (.agg #[.int .i64 ((N : Nat) : Int), .slice b.A N b.cap])] : Array Value).size = 38 - 2 from rfl]
  generalize ({ tmps := #[(.agg #[.int .i64 ((N : Nat) : Int), .slice a.A N a.cap]), (.agg #[.int .i64 ((N : Nat) : Int), .slice b.A N b.cap])] ++ Array.replicate (38 - 2) undef, defers := [] } : Act) = a0 at hz e0 e1 hd ⊢
  have hB : Below w0.heap.size w0 w0 := Below.refl _ _
  have hS := hB.size
  refine wp_seq ?_
  refine seq_startL (l := [0, 1, 2]) (by kernel_rfl) ?_
  refine seq_valD 2 rfl rfl rfl (run_boxC rfl e0) ?_
  have x2 := RowT.new w0 26 [.int .i64 ((N : Nat) : Int), .slice a.A N a.cap]
  replace hB := hB.al (o := .cells ([.int .i64 ((N : Nat) : Int), .slice a.A N a.cap] : List Value).toArray 26)
  change wpOps _ _ _ _ _ (w0.alloc (.cells ([.int .i64 ((N : Nat) : Int), .slice a.A N a.cap] : List Value).toArray 26))
  generalize (w0.alloc (.cells ([.int .i64 ((N : Nat) : Int), .slice a.A N a.cap] : List Value).toArray 26)) = w1 at x2 hB ⊢
  generalize hbq2 : w0.heap.size = b2 at x2 ⊢
  have hge2 : w0.heap.size ≤ b2 := by rw [← hbq2]; exact hS
  clear hbq2
  have hS := hB.size
  refine seq_valD 3 rfl rfl rfl (run_boxC rfl ((ev_ne (by decide)).trans e1)) ?_
  have nx2_3 : b2 ≠ w1.heap.size := Nat.ne_of_lt x2.lt
  have x3 := RowT.new w1 26 [.int .i64 ((N : Nat) : Int), .slice b.A N b.cap]
  replace x2 := x2.alloc (.cells ([.int .i64 ((N : Nat) : Int), .slice b.A N b.cap] : List Value).toArray 26)
  replace hB := hB.al (o := .cells ([.int .i64 ((N : Nat) : Int), .slice b.A N b.cap] : List Value).toArray 26)
  change wpOps _ _ _ _ _ (w1.alloc (.cells ([.int .i64 ((N : Nat) : Int), .slice b.A N b.cap] : List Value).toArray 26))
  generalize (w1.alloc (.cells ([.int .i64 ((N : Nat) : Int), .slice b.A N b.cap] : List Value).toArray 26)) = w2 at x2 x3 hB ⊢
  generalize hbq3 : w1.heap.size = b3 at x3 nx2_3 ⊢
  have hge3 : w0.heap.size ≤ b3 := by rw [← hbq3]; exact hS
  clear hbq3
  have hS := hB.size
  refine seq_valD 4 rfl rfl rfl (run_allocR rfl rfl) ?_
  have nx2_4 : b2 ≠ w2.heap.size := Nat.ne_of_lt x2.lt
  have nx3_4 : b3 ≠ w2.heap.size := Nat.ne_of_lt x3.lt
  have x4 := RowT.new w2 26 [.int .i64 0, .slice none 0 0]
  replace x2 := x2.alloc (.cells ([.int .i64 0, .slice none 0 0] : List Value).toArray 26)
  replace x3 := x3.alloc (.cells ([.int .i64 0, .slice none 0 0] : List Value).toArray 26)
  replace hB := hB.al (o := .cells ([.int .i64 0, .slice none 0 0] : List Value).toArray 26)
  change wpOps _ _ _ _ _ (w2.alloc (.cells ([.int .i64 0, .slice none 0 0] : List Value).toArray 26))
  generalize (w2.alloc (.cells ([.int .i64 0, .slice none 0 0] : List Value).toArray 26)) = w3 at x2 x3 x4 hB ⊢
  generalize hbq4 : w2.heap.size = b4 at x4 nx2_4 nx3_4 ⊢
  have hge4 : w0.heap.size ≤ b4 := by rw [← hbq4]; exact hS
  clear hbq4
  have hS := hB.size
  refine seq_nil ?_
  refine seq_out ((((KeepM.refl 7 [2, 3, 4] a0).put (by decide)).put (by decide)).put (by decide)) fun a4 k4 tr => ?_
  have f2 := tr 2 (.pointer (some ⟨b2, 0, none⟩)) ((ev_ne (by decide)).trans ((ev_ne (by decide)).trans (ev_same (by first | (rw [hz]; decide) | (simp only [size_put, hz]; decide)))))
  have f3 := tr 3 (.pointer (some ⟨b3, 0, none⟩)) ((ev_ne (by decide)).trans (ev_same (by first | (rw [hz]; decide) | (simp only [size_put, hz]; decide))))
  have f4 := tr 4 (.pointer (some ⟨b4, 0, none⟩)) (ev_same (by first | (rw [hz]; decide) | (simp only [size_put, hz]; decide)))
  clear tr
  replace e0 := k4.ev e0 (by decide)
  replace e1 := k4.ev e1 (by decide)
  replace hz := k4.size.trans hz
  replace hd := k4.defers.trans hd
  have e2 := f2
  clear f2
  have e3 := f3
  clear f3
  have e4 := f4
  clear f4
  refine wp_seq ?_
  refine wp_seq ?_
  refine seq_startL (l := [0, 1, 2, 3, 4]) (by kernel_rfl) ?_
  refine seq_valD 7 (v := (.agg #[.int .i64 ((N : Nat) : Int), .slice a.A N a.cap])) rfl rfl rfl (run_ldR rfl e2 (x2.cell 0) (x2.cell 1)) ?_
  refine seq_valD 8 (v := (.agg #[.int .i64 ((N : Nat) : Int), .slice b.A N b.cap])) rfl rfl rfl (run_ldR rfl ((ev_ne (by decide)).trans e3) (x3.cell 0) (x3.cell 1)) ?_
  refine seq_valD 9 rfl rfl rfl (run_rels2 (a1 := a) (a2 := b) rfl (((ev_ne (by decide)).trans (ev_same (by first | (rw [hz]; decide) | (simp only [size_put, hz]; decide)))).trans hav.symm) ((ev_same (by first | (rw [hz]; decide) | (simp only [size_put, hz]; decide))).trans hbv.symm)) ?_
  have nx2_9 : b2 ≠ w3.heap.size := Nat.ne_of_lt x2.lt
  have nx3_9 : b3 ≠ w3.heap.size := Nat.ne_of_lt x3.lt
  have nx4_9 : b4 ≠ w3.heap.size := Nat.ne_of_lt x4.lt
  have x9 := RowT.new w3 26 ([a, b].flatMap RA.cells)
  replace x2 := x2.alloc (.cells (([a, b].flatMap RA.cells) : List Value).toArray 26)
  replace x3 := x3.alloc (.cells (([a, b].flatMap RA.cells) : List Value).toArray 26)
  replace x4 := x4.alloc (.cells (([a, b].flatMap RA.cells) : List Value).toArray 26)
  replace hB := hB.al (o := .cells (([a, b].flatMap RA.cells) : List Value).toArray 26)
  change wpOps _ _ _ _ _ (w3.alloc (.cells (([a, b].flatMap RA.cells) : List Value).toArray 26))
  generalize (w3.alloc (.cells (([a, b].flatMap RA.cells) : List Value).toArray 26)) = w5 at x2 x3 x4 x9 hB ⊢
  generalize hbq9 : w3.heap.size = b9 at x9 nx2_9 nx3_9 nx4_9 ⊢
  have hge9 : w0.heap.size ≤ b9 := by rw [← hbq9]; exact hS
  clear hbq9
  have hS := hB.size
  refine seq_callD 10 rfl rfl rfl en_alike rfl (args_one (ev_same (by first | (rw [hz]; decide) | (simp only [size_put, hz]; decide)))) ((ralike2 w5 hal x9 (ha.on hB) (hb.on hB)).mono ?_)
  rintro e w6 ⟨rfl, hb6⟩
  refine ⟨_, rfl, ?_⟩
  replace x2 := x2.below hb6 x2.lt
  replace x3 := x3.below hb6 x3.lt
  replace x4 := x4.below hb6 x4.lt
  replace x9 := x9.below hb6 x9.lt
  replace hB := Below.next hB hb6
  replace hS := hB.size
  refine seq_valD 11 (v := (.bool false)) rfl rfl rfl (run_not rfl (ev_same (by first | (rw [hz]; decide) | (simp only [size_put, hz]; decide)))) ?_
  refine seq_nil ?_
  refine seq_out ((((((KeepM.refl 7 [] a4).put (by decide)).put (by decide)).put (by decide)).put (by decide)).put (by decide)) fun a7 k7 tr => ?_
  have f11 := tr 11 (.bool false) (ev_same (by first | (rw [hz]; decide) | (simp only [size_put, hz]; decide)))
  clear tr
  replace e2 := k7.ev e2 (by decide)
  replace e3 := k7.ev e3 (by decide)
  replace e4 := k7.ev e4 (by decide)
  replace hz := k7.size.trans hz
  replace hd := k7.defers.trans hd
  have e11 := f11
  clear f11
  clear x9
  refine wp_cond_false e11 ?_
  refine wp_skip ?_
  refine wp_seq ?_
  refine seq_startL (l := [0, 1, 2, 3, 4]) (by kernel_rfl) ?_
  refine seq_valD 13 (v := (.pointer (some ⟨b2, 0, none⟩))) rfl rfl rfl (run_fp0 rfl e2) ?_
  refine seq_valD 14 (v := (.int .i64 ((N : Nat) : Int))) rfl rfl rfl (run_ldI rfl (ev_same (by first | (rw [hz]; decide) | (simp only [size_put, hz]; decide))) (x2.cell 0)) ?_
  refine seq_callD 15 rfl rfl rfl en_rNone rfl (args_one (ev_same (by first | (rw [hz]; decide) | (simp only [size_put, hz]; decide)))) ((rnone_ok N w6 h64).mono ?_)
  rintro e w8 ⟨v8, rfl, ⟨g, rfl, hgg, y⟩, hb8⟩
  refine ⟨_, rfl, ?_⟩
  replace hgg : w0.heap.size ≤ g := Nat.le_trans hS hgg
  replace x2 := x2.below hb8 x2.lt
  replace x3 := x3.below hb8 x3.lt
  replace x4 := x4.below hb8 x4.lt
  replace hB := Below.next hB hb8
  replace hS := hB.size
  refine seq_valD 5 rfl rfl rfl (run_allocR rfl rfl) ?_
  have nx2_5 : b2 ≠ w8.heap.size := Nat.ne_of_lt x2.lt
  have nx3_5 : b3 ≠ w8.heap.size := Nat.ne_of_lt x3.lt
  have nx4_5 : b4 ≠ w8.heap.size := Nat.ne_of_lt x4.lt
  have x5 := RowT.new w8 26 [.int .i64 0, .slice none 0 0]
  replace x2 := x2.alloc (.cells ([.int .i64 0, .slice none 0 0] : List Value).toArray 26)
  replace x3 := x3.alloc (.cells ([.int .i64 0, .slice none 0 0] : List Value).toArray 26)
  replace x4 := x4.alloc (.cells ([.int .i64 0, .slice none 0 0] : List Value).toArray 26)
  replace y := y.alloc (.cells ([.int .i64 0, .slice none 0 0] : List Value).toArray 26)
  replace hB := hB.al (o := .cells ([.int .i64 0, .slice none 0 0] : List Value).toArray 26)
  change wpOps _ _ _ _ _ (w8.alloc (.cells ([.int .i64 0, .slice none 0 0] : List Value).toArray 26))
  generalize (w8.alloc (.cells ([.int .i64 0, .slice none 0 0] : List Value).toArray 26)) = w9 at x2 x3 x4 y x5 hB ⊢
  generalize hbq5 : w8.heap.size = b5 at x5 nx2_5 nx3_5 nx4_5 ⊢
  have hge5 : w0.heap.size ≤ b5 := by rw [← hbq5]; exact hS
  clear hbq5
  have hS := hB.size
  refine seq_skipD rfl rfl rfl (run_stR rfl (ev_same (by first | (rw [hz]; decide) | (simp only [size_put, hz]; decide))) ((ev_ne (by decide)).trans (ev_same (by first | (rw [hz]; decide) | (simp only [size_put, hz]; decide)))) x5) ?_
  have y5 : RowT ((w9.setCell ⟨b5, 0, none⟩ (.int .i64 ((N : Nat) : Int))).setCell ⟨b5, 1, none⟩ (.slice (some ⟨g, 0, none⟩) N N)) b5 26 [.int .i64 ((N : Nat) : Int), .slice (some ⟨g, 0, none⟩) N N] := (x5.set_ 0 _).set_ 1 _
  replace x2 := (x2.far (p := ⟨b5, 0, none⟩) nx2_5 (.int .i64 ((N : Nat) : Int))).far (p := ⟨b5, 1, none⟩) nx2_5 (.slice (some ⟨g, 0, none⟩) N N)
  replace x3 := (x3.far (p := ⟨b5, 0, none⟩) nx3_5 (.int .i64 ((N : Nat) : Int))).far (p := ⟨b5, 1, none⟩) nx3_5 (.slice (some ⟨g, 0, none⟩) N N)
  replace x4 := (x4.far (p := ⟨b5, 0, none⟩) nx4_5 (.int .i64 ((N : Nat) : Int))).far (p := ⟨b5, 1, none⟩) nx4_5 (.slice (some ⟨g, 0, none⟩) N N)
  replace y := (y.keep (i := 0) x5 (by decide) (.int .i64 ((N : Nat) : Int))).keep (i := 1) (x5.set_ 0 (.int .i64 ((N : Nat) : Int))) (by decide) (.slice (some ⟨g, 0, none⟩) N N)
  replace hB := (hB.setCell (p := ⟨b5, 0, none⟩) hge5 (.int .i64 ((N : Nat) : Int))).setCell (p := ⟨b5, 1, none⟩) hge5 (.slice (some ⟨g, 0, none⟩) N N)
  have x5 := y5
  clear y5
  generalize ((w9.setCell ⟨b5, 0, none⟩ (.int .i64 ((N : Nat) : Int))).setCell ⟨b5, 1, none⟩ (.slice (some ⟨g, 0, none⟩) N N)) = w10 at x2 x3 x4 y x5 hB ⊢
  replace hS := hB.size
  refine seq_nil ?_
  refine seq_out (((((KeepM.refl 7 [5] a7).put (by decide)).put (by decide)).put (by decide)).put (by decide)) fun a11 k11 tr => ?_
  have f5 := tr 5 (.pointer (some ⟨b5, 0, none⟩)) (ev_same (by first | (rw [hz]; decide) | (simp only [size_put, hz]; decide)))
  clear tr
  replace e2 := k11.ev e2 (by decide)
  replace e3 := k11.ev e3 (by decide)
  replace e4 := k11.ev e4 (by decide)
  replace hz := k11.size.trans hz
  replace hd := k11.defers.trans hd
  have e5 := f5
  clear f5
  have y0 : RowT w10 g 37 (((List.range N).map (midF (fun i => a.rows.getD i 0 &&& b.rows.getD i 0) 0)).map U) := by rw [midF_zero]; exact y
  clear y
  have y := y0
  clear y0
  refine wp_seq ?_
  refine wp_seq ?_
  refine seq_startL (l := [0]) (by kernel_rfl) ?_
  refine seq_assign 6 (v := (.int .i64 0)) rfl rfl rfl rfl rfl ?_
  refine seq_nil ?_
  refine seq_out ((KeepM.refl 7 [6] a11).put (by decide)) fun a12 k12 tr => ?_
  have f6 := tr 6 (.int .i64 0) (ev_same (by first | (rw [hz]; decide) | (simp only [size_put, hz]; decide)))
  clear tr
  replace e2 := k12.ev e2 (by decide)
  replace e3 := k12.ev e3 (by decide)
  replace e4 := k12.ev e4 (by decide)
  replace e5 := k12.ev e5 (by decide)
  replace hz := k12.size.trans hz
  replace hd := k12.defers.trans hd
  have e6 := f6
  clear f6
  refine wp_block ?_
  refine wp_loop (fun aq wq => ∃ (k : Nat), (k ≤ N) ∧ KeepM 7 [6] a12 aq ∧ aq.eval (.tmp 6) = (.int .i64 ((k : Nat) : Int)) ∧ RowT wq b2 26 [.int .i64 ((N : Nat) : Int), .slice a.A N a.cap] ∧ RowT wq b3 26 [.int .i64 ((N : Nat) : Int), .slice b.A N b.cap] ∧ RowT wq b4 26 [.int .i64 0, .slice none 0 0] ∧ RowT wq g 37 (((List.range N).map (midF (fun i => a.rows.getD i 0 &&& b.rows.getD i 0) k)).map U) ∧ RowT wq b5 26 [.int .i64 ((N : Nat) : Int), .slice (some ⟨g, 0, none⟩) N N] ∧ Below w0.heap.size w0 wq) (fun aq _ => N - (intOf (aq.eval (.tmp 6))).toNat) ⟨0, Nat.zero_le _, KeepM.refl _ _ _, e6, x2, x3, x4, y, x5, hB⟩ ?_
  rintro a13 w13 ⟨k, hk0, kk0, g6, qx2, qx3, qx4, qy, qx5, qB⟩
  replace e2 := kk0.ev e2 (by decide)
  replace e3 := kk0.ev e3 (by decide)
  replace e4 := kk0.ev e4 (by decide)
  replace e5 := kk0.ev e5 (by decide)
  replace hz := kk0.size.trans hz
  replace hd := kk0.defers.trans hd
  clear e6 x2 x3 x4 y x5 hB hS
  have e6 := g6
  have x2 := qx2
  have x3 := qx3
  have x4 := qx4
  have y := qy
  have x5 := qx5
  have hB := qB
  have hS := hB.size
  clear qx2 qx3 qx4 qy qx5 qB
  have e6s := e6
  refine wp_seq ?_
  refine wp_seq ?_
  refine seq_startL (l := [0, 1, 2, 3]) (by kernel_rfl) ?_
  refine seq_move 16 (v := (.int .i64 ((k : Nat) : Int))) rfl rfl rfl rfl e6 ?_
  refine seq_valD 17 (v := (.pointer (some ⟨b5, 0, none⟩))) rfl rfl rfl (run_fp0 rfl ((ev_ne (by decide)).trans e5)) ?_
  refine seq_valD 18 (v := (.int .i64 ((N : Nat) : Int))) rfl rfl rfl (run_ldI rfl (ev_same (by first | (rw [hz]; decide) | (simp only [size_put, hz]; decide))) (x5.cell 0)) ?_
  refine seq_valD 19 (v := (.bool (decide (((k : Nat) : Int) < ((N : Nat) : Int))))) rfl rfl rfl (run_ltI rfl ((ev_ne (by decide)).trans ((ev_ne (by decide)).trans (ev_same (by first | (rw [hz]; decide) | (simp only [size_put, hz]; decide))))) (ev_same (by first | (rw [hz]; decide) | (simp only [size_put, hz]; decide)))) ?_
  refine seq_nil ?_
  refine seq_out (((((KeepM.refl 7 [] a13).put (by decide)).put (by decide)).put (by decide)).put (by decide)) fun a14 k14 tr => ?_
  have f19 := tr 19 (.bool (decide (((k : Nat) : Int) < ((N : Nat) : Int)))) (ev_same (by first | (rw [hz]; decide) | (simp only [size_put, hz]; decide)))
  clear tr
  replace e2 := k14.ev e2 (by decide)
  replace e3 := k14.ev e3 (by decide)
  replace e4 := k14.ev e4 (by decide)
  replace e5 := k14.ev e5 (by decide)
  replace e6 := k14.ev e6 (by decide)
  replace hz := k14.size.trans hz
  replace hd := k14.defers.trans hd
  replace kk0 := kk0.trans (k14.mono (ys := [6]) (by decide))
  have e19 := f19
  clear f19
  by_cases hlt : k < N
  · rw [decide_eq_true (by omega)] at e19
    refine wp_cond_true e19 ?_
    refine wp_skip ?_
    refine wp_seq ?_
    refine wp_block ?_
    obtain ⟨ad, hA, hal1, hcA, huA⟩ := good_row (ha.on hB) (k := k) (by omega)
    obtain ⟨bd, hBB, hbl1, hcB, huB⟩ := good_row (hb.on hB) (k := k) (by omega)
    have hlast : lastOk (regOps Tryd.f37 7) 15 = true := by kernel_rfl
    refine region_w (n := 16) [some (.pointer (some ⟨b5, 1, none⟩)), some (.slice (some ⟨g, 0, none⟩) N N), some (.int .i64 ((k : Nat) : Int)), some (.pointer (some ⟨b2, 1, none⟩)), some (.slice (some ad) N a.cap), some (.int .i64 ((k : Nat) : Int)), some (.pointer (some (ad.add k))), some (.int .u64 (((a.rows.getD k 0) : Nat) : Int)), some (.pointer (some ⟨b3, 1, none⟩)), some (.slice (some bd) N b.cap), some (.int .i64 ((k : Nat) : Int)), some (.pointer (some (bd.add k))), some (.int .u64 (((b.rows.getD k 0) : Nat) : Int)), some (.int .u64 ((((a.rows.getD k 0) &&& (b.rows.getD k 0)) : Nat) : Int)), some (.pointer (some ((⟨g, 0, none⟩ : Addr).add k))), none] 15 w13 (w13.drew.setCell ((⟨g, 0, none⟩ : Addr).add k) (.int .u64 ((((a.rows.getD k 0) &&& (b.rows.getD k 0)) : Nat) : Int))) (by kernel_rfl) (by rw [hz]; kernel_rfl) (by kernel_rfl) (by kernel_rfl) (by kernel_rfl) (by kernel_rfl) ?_ fun L a15 w15 hL st => ?_
    · refine ⟨⟨⟨⟨⟨⟨⟨⟨⟨⟨⟨⟨⟨⟨⟨⟨trivial, ?_⟩, ?_⟩, ?_⟩, ?_⟩, ?_⟩, ?_⟩, ?_⟩, ?_⟩, ?_⟩, ?_⟩, ?_⟩, ?_⟩, ?_⟩, ?_⟩, ?_⟩, ?_⟩
      · intro o a w L ho hL haft st; obtain rfl := Option.some.inj ho; exact payW st hlast hL (by decide) (want_none rfl) (run_fp1 rfl (st.outV (by kernel_rfl) e5)) rfl
      · intro o a w L ho hL haft st; obtain rfl := Option.some.inj ho; exact payW st hlast hL (by decide) (want_none rfl) (run_ldS rfl (st.argV (j := 0) (aft_of haft (by kernel_rfl)) rfl rfl) (x5.cell 1)) rfl
      · intro o a w L ho hL haft st; obtain rfl := Option.some.inj ho; exact payW_move st hlast hL (by decide) (want_none rfl) rfl (st.outV (by kernel_rfl) e6) rfl
      · intro o a w L ho hL haft st; obtain rfl := Option.some.inj ho; exact payW st hlast hL (by decide) (want_none rfl) (run_fp1 rfl (st.outV (by kernel_rfl) e2)) rfl
      · intro o a w L ho hL haft st; obtain rfl := Option.some.inj ho; exact payW st hlast hL (by decide) (want_none rfl) (run_ldS rfl (st.argV (j := 3) (aft_of haft (by kernel_rfl)) rfl rfl) (by rw [← hA]; exact x2.cell 1)) rfl
      · intro o a w L ho hL haft st; obtain rfl := Option.some.inj ho; exact payW_move st hlast hL (by decide) (want_none rfl) rfl (st.outV (by kernel_rfl) e6) rfl
      · intro o a w L ho hL haft st; obtain rfl := Option.some.inj ho; exact payW st hlast hL (by decide) (want_none rfl) (run_ixU (k := k) rfl (st.argV (j := 4) (aft_of haft (by kernel_rfl)) rfl rfl) (st.argV (j := 5) (aft_of haft (by kernel_rfl)) rfl rfl) hlt) rfl
      · intro o a w L ho hL haft st; obtain rfl := Option.some.inj ho; exact payW st hlast hL (by decide) (want_none rfl) (run_ldU rfl (st.argV (j := 6) (aft_of haft (by kernel_rfl)) rfl rfl) hcA) rfl
      · intro o a w L ho hL haft st; obtain rfl := Option.some.inj ho; exact payW st hlast hL (by decide) (want_none rfl) (run_fp1 rfl (st.outV (by kernel_rfl) e3)) rfl
      · intro o a w L ho hL haft st; obtain rfl := Option.some.inj ho; exact payW st hlast hL (by decide) (want_none rfl) (run_ldS rfl (st.argV (j := 8) (aft_of haft (by kernel_rfl)) rfl rfl) (by rw [← hBB]; exact x3.cell 1)) rfl
      · intro o a w L ho hL haft st; obtain rfl := Option.some.inj ho; exact payW_move st hlast hL (by decide) (want_none rfl) rfl (st.outV (by kernel_rfl) e6) rfl
      · intro o a w L ho hL haft st; obtain rfl := Option.some.inj ho; exact payW st hlast hL (by decide) (want_none rfl) (run_ixU (k := k) rfl (st.argV (j := 9) (aft_of haft (by kernel_rfl)) rfl rfl) (st.argV (j := 10) (aft_of haft (by kernel_rfl)) rfl rfl) hlt) rfl
      · intro o a w L ho hL haft st; obtain rfl := Option.some.inj ho; exact payW st hlast hL (by decide) (want_none rfl) (run_ldU rfl (st.argV (j := 11) (aft_of haft (by kernel_rfl)) rfl rfl) hcB) rfl
      · intro o a w L ho hL haft st; obtain rfl := Option.some.inj ho; exact payW st hlast hL (by decide) (want_none rfl) (run_andU rfl (st.argV (j := 7) (aft_of haft (by kernel_rfl)) rfl rfl) (st.argV (j := 12) (aft_of haft (by kernel_rfl)) rfl rfl) huA huB) rfl
      · intro o a w L ho hL haft st; obtain rfl := Option.some.inj ho; exact payW st hlast hL (by decide) (want_none rfl) (run_ixU (k := k) rfl (st.argV (j := 1) (aft_of haft (by kernel_rfl)) rfl rfl) (st.argV (j := 2) (aft_of haft (by kernel_rfl)) rfl rfl) hlt) rfl
      · intro o a w L ho hL haft st; obtain rfl := Option.some.inj ho; exact storeW st hlast hL (want_none rfl) (run_stU rfl (st.argV (j := 14) (aft_of haft (by kernel_rfl)) rfl rfl) (st.argV (j := 13) (aft_of haft (by kernel_rfl)) rfl rfl) (y.addc (row_get hlt)) y.addf) rfl
    clear hlast
    obtain rfl := st.end2 hL (by omega)
    have k15 : KeepM 7 [] a14 a15 := st.keepM (by kernel_rfl)
    clear st hL L
    replace e2 := k15.ev e2 (by decide)
    replace e3 := k15.ev e3 (by decide)
    replace e4 := k15.ev e4 (by decide)
    replace e5 := k15.ev e5 (by decide)
    replace e6 := k15.ev e6 (by decide)
    replace hz := k15.size.trans hz
    replace hd := k15.defers.trans hd
    replace kk0 := kk0.trans (k15.mono (ys := [6]) (by decide))
    rw [add0]
    replace x2 := x2.drew.keep (i := k) y.drew (by decide) (.int .u64 ((((a.rows.getD k 0) &&& (b.rows.getD k 0)) : Nat) : Int))
    replace x3 := x3.drew.keep (i := k) y.drew (by decide) (.int .u64 ((((a.rows.getD k 0) &&& (b.rows.getD k 0)) : Nat) : Int))
    replace x4 := x4.drew.keep (i := k) y.drew (by decide) (.int .u64 ((((a.rows.getD k 0) &&& (b.rows.getD k 0)) : Nat) : Int))
    replace x5 := x5.drew.keep (i := k) y.drew (by decide) (.int .u64 ((((a.rows.getD k 0) &&& (b.rows.getD k 0)) : Nat) : Int))
    replace y := row_set (F' := midF (fun i => a.rows.getD i 0 &&& b.rows.getD i 0) (k + 1)) y.drew (fun i => midF_succ _ k i)
    replace hB := hB.drew.setCell (p := ⟨g, k, none⟩) hgg (.int .u64 ((((a.rows.getD k 0) &&& (b.rows.getD k 0)) : Nat) : Int))
    generalize (w13.drew.setCell ⟨g, k, none⟩ (.int .u64 ((((a.rows.getD k 0) &&& (b.rows.getD k 0)) : Nat) : Int))) = w16 at x2 x3 x4 y x5 hB ⊢
    replace hS := hB.size
    refine seq_startL (l := [0, 1, 2]) (by kernel_rfl) ?_
    refine seq_move 20 (v := (.int .i64 ((k : Nat) : Int))) rfl rfl rfl rfl e6 ?_
    refine seq_valD 21 (v := (.int .i64 ((k + 1 : Nat) : Int))) rfl rfl rfl (run_incI rfl (ev_same (by first | (rw [hz]; decide) | (simp only [size_put, hz]; decide))) rfl (by omega)) ?_
    refine seq_assign 6 (v := (.int .i64 ((k + 1 : Nat) : Int))) rfl rfl rfl rfl (ev_same (by first | (rw [hz]; decide) | (simp only [size_put, hz]; decide))) ?_
    refine seq_nil ?_
    refine seq_out ((((KeepM.refl 7 [6] a15).put (by decide)).put (by decide)).put (by decide)) fun a17 k17 tr => ?_
    have f6 := tr 6 (.int .i64 ((k + 1 : Nat) : Int)) (ev_same (by first | (rw [hz]; decide) | (simp only [size_put, hz]; decide)))
    clear tr
    replace e2 := k17.ev e2 (by decide)
    replace e3 := k17.ev e3 (by decide)
    replace e4 := k17.ev e4 (by decide)
    replace e5 := k17.ev e5 (by decide)
    replace hz := k17.size.trans hz
    replace hd := k17.defers.trans hd
    replace kk0 := kk0.trans (k17.mono (ys := [6]) (by decide))
    have e6 := f6
    clear f6
    refine ⟨⟨k + 1, by omega, kk0, e6, x2, x3, x4, y, x5, hB⟩, ?_⟩
    rw [e6, e6s]; simp [intOf]; omega
  · rw [decide_eq_false (by omega)] at e19
    refine wp_cond_false e19 ?_
    refine wp_exit ?_
    refine exit_here1 (id := 0) ?_
    obtain rfl : N = k := by omega
    refine wp_seq ?_
    refine seq_startL (l := [0, 1]) (by kernel_rfl) ?_
    refine seq_valD 37 (v := (.agg #[.int .i64 ((N : Nat) : Int), .slice (some ⟨g, 0, none⟩) N N])) rfl rfl rfl (run_ldR rfl e5 (x5.cell 0) (x5.cell 1)) ?_
    refine seq_skipD rfl rfl rfl (run_stR rfl ((ev_ne (by decide)).trans e4) (ev_same (by first | (rw [hz]; decide) | (simp only [size_put, hz]; decide))) x4) ?_
    have y4 : RowT ((w13.setCell ⟨b4, 0, none⟩ (.int .i64 ((N : Nat) : Int))).setCell ⟨b4, 1, none⟩ (.slice (some ⟨g, 0, none⟩) N N)) b4 26 [.int .i64 ((N : Nat) : Int), .slice (some ⟨g, 0, none⟩) N N] := (x4.set_ 0 _).set_ 1 _
    replace x2 := (x2.far (p := ⟨b4, 0, none⟩) nx2_4 (.int .i64 ((N : Nat) : Int))).far (p := ⟨b4, 1, none⟩) nx2_4 (.slice (some ⟨g, 0, none⟩) N N)
    replace x3 := (x3.far (p := ⟨b4, 0, none⟩) nx3_4 (.int .i64 ((N : Nat) : Int))).far (p := ⟨b4, 1, none⟩) nx3_4 (.slice (some ⟨g, 0, none⟩) N N)
    replace y := (y.keep (i := 0) x4 (by decide) (.int .i64 ((N : Nat) : Int))).keep (i := 1) (x4.set_ 0 (.int .i64 ((N : Nat) : Int))) (by decide) (.slice (some ⟨g, 0, none⟩) N N)
    replace x5 := (x5.far (p := ⟨b4, 0, none⟩) nx4_5.symm (.int .i64 ((N : Nat) : Int))).far (p := ⟨b4, 1, none⟩) nx4_5.symm (.slice (some ⟨g, 0, none⟩) N N)
    replace hB := (hB.setCell (p := ⟨b4, 0, none⟩) hge4 (.int .i64 ((N : Nat) : Int))).setCell (p := ⟨b4, 1, none⟩) hge4 (.slice (some ⟨g, 0, none⟩) N N)
    have x4 := y4
    clear y4
    generalize ((w13.setCell ⟨b4, 0, none⟩ (.int .i64 ((N : Nat) : Int))).setCell ⟨b4, 1, none⟩ (.slice (some ⟨g, 0, none⟩) N N)) = w18 at x2 x3 x4 y x5 hB ⊢
    replace hS := hB.size
    refine seq_nil ?_
    refine seq_out ((KeepM.refl 7 [] a14).put (by decide)) fun a19 k19 tr => ?_
    clear tr
    replace e2 := k19.ev e2 (by decide)
    replace e3 := k19.ev e3 (by decide)
    replace e4 := k19.ev e4 (by decide)
    replace e5 := k19.ev e5 (by decide)
    replace e6 := k19.ev e6 (by decide)
    replace hz := k19.size.trans hz
    replace hd := k19.defers.trans hd
    rw [midF_full] at y
    refine wp_ret ?_
    exact post_cell rfl hd e4 x4 (fin_R y (by simp) (by intro x hx; obtain ⟨i, _, rfl⟩ := List.mem_map.1 hx; exact Nat.lt_of_le_of_lt Nat.and_le_left (getD_u ha.1 i)) hB)
set_option maxRecDepth 100000 in
theorem rAnd_bad (a b : RA) (w0 : World) (ha : a.good w0) (hb : b.good w0) (hal : Palike [a.pr, b.pr] = false) :
    Calls Tryd.prog 37 #[a.val, b.val] w0 (RetR w0 PR.zero) := by
  have hav : a.val = (.agg #[.int .i64 a.n, .slice a.A a.rows.length a.cap]) := rfl
  have hbv : b.val = (.agg #[.int .i64 b.n, .slice b.A b.rows.length b.cap]) := rfl
  rw [hav, hbv]
  refine calls_of_wp Tryd.func37 rfl ?_
  obtain ⟨hz, e0, e1⟩ := start_act2 38 ((.agg #[.int .i64 a.n, .slice a.A a.rows.length a.cap])) ((.agg #[.int .i64 b.n, .slice b.A b.rows.length b.cap])) (by decide)
  have hd : ({ tmps := #[(.agg #[.int .i64 a.n, .slice a.A a.rows.length a.cap]), (.agg #[.int .i64 b.n, .slice b.A b.rows.length b.cap])] ++ Array.replicate (38 - 2) undef, defers := [] } : Act).defers = [] := rfl
  rw [show Tryd.f37.ntmps - (#[(.agg #[.int .i64 a.n, .slice a.A a.rows.length a.cap]), (.agg #[.int .i64 b.n, .slice b.A b.rows.length b.cap])] : Array Value).size = 38 - 2 from rfl]
  generalize ({ tmps := #[(.agg #[.int .i64 a.n, .slice a.A a.rows.length a.cap]), (.agg #[.int .i64 b.n, .slice b.A b.rows.length b.cap])] ++ Array.replicate (38 - 2) undef, defers := [] } : Act) = a0 at hz e0 e1 hd ⊢
  have hB : Below w0.heap.size w0 w0 := Below.refl _ _
  have hS := hB.size
  refine wp_seq ?_
  refine seq_startL (l := [0, 1, 2]) (by kernel_rfl) ?_
  refine seq_valD 2 rfl rfl rfl (run_boxC rfl e0) ?_
  have x2 := RowT.new w0 26 [.int .i64 a.n, .slice a.A a.rows.length a.cap]
  replace hB := hB.al (o := .cells ([.int .i64 a.n, .slice a.A a.rows.length a.cap] : List Value).toArray 26)
  change wpOps _ _ _ _ _ (w0.alloc (.cells ([.int .i64 a.n, .slice a.A a.rows.length a.cap] : List Value).toArray 26))
  generalize (w0.alloc (.cells ([.int .i64 a.n, .slice a.A a.rows.length a.cap] : List Value).toArray 26)) = w1 at x2 hB ⊢
  generalize hbq2 : w0.heap.size = b2 at x2 ⊢
  have hge2 : w0.heap.size ≤ b2 := by rw [← hbq2]; exact hS
  clear hbq2
  have hS := hB.size
  refine seq_valD 3 rfl rfl rfl (run_boxC rfl ((ev_ne (by decide)).trans e1)) ?_
  have nx2_3 : b2 ≠ w1.heap.size := Nat.ne_of_lt x2.lt
  have x3 := RowT.new w1 26 [.int .i64 b.n, .slice b.A b.rows.length b.cap]
  replace x2 := x2.alloc (.cells ([.int .i64 b.n, .slice b.A b.rows.length b.cap] : List Value).toArray 26)
  replace hB := hB.al (o := .cells ([.int .i64 b.n, .slice b.A b.rows.length b.cap] : List Value).toArray 26)
  change wpOps _ _ _ _ _ (w1.alloc (.cells ([.int .i64 b.n, .slice b.A b.rows.length b.cap] : List Value).toArray 26))
  generalize (w1.alloc (.cells ([.int .i64 b.n, .slice b.A b.rows.length b.cap] : List Value).toArray 26)) = w2 at x2 x3 hB ⊢
  generalize hbq3 : w1.heap.size = b3 at x3 nx2_3 ⊢
  have hge3 : w0.heap.size ≤ b3 := by rw [← hbq3]; exact hS
  clear hbq3
  have hS := hB.size
  refine seq_valD 4 rfl rfl rfl (run_allocR rfl rfl) ?_
  have nx2_4 : b2 ≠ w2.heap.size := Nat.ne_of_lt x2.lt
  have nx3_4 : b3 ≠ w2.heap.size := Nat.ne_of_lt x3.lt
  have x4 := RowT.new w2 26 [.int .i64 0, .slice none 0 0]
  replace x2 := x2.alloc (.cells ([.int .i64 0, .slice none 0 0] : List Value).toArray 26)
  replace x3 := x3.alloc (.cells ([.int .i64 0, .slice none 0 0] : List Value).toArray 26)
  replace hB := hB.al (o := .cells ([.int .i64 0, .slice none 0 0] : List Value).toArray 26)
  change wpOps _ _ _ _ _ (w2.alloc (.cells ([.int .i64 0, .slice none 0 0] : List Value).toArray 26))
  generalize (w2.alloc (.cells ([.int .i64 0, .slice none 0 0] : List Value).toArray 26)) = w3 at x2 x3 x4 hB ⊢
  generalize hbq4 : w2.heap.size = b4 at x4 nx2_4 nx3_4 ⊢
  have hge4 : w0.heap.size ≤ b4 := by rw [← hbq4]; exact hS
  clear hbq4
  have hS := hB.size
  refine seq_nil ?_
  refine seq_out ((((KeepM.refl 7 [2, 3, 4] a0).put (by decide)).put (by decide)).put (by decide)) fun a4 k4 tr => ?_
  have f2 := tr 2 (.pointer (some ⟨b2, 0, none⟩)) ((ev_ne (by decide)).trans ((ev_ne (by decide)).trans (ev_same (by first | (rw [hz]; decide) | (simp only [size_put, hz]; decide)))))
  have f3 := tr 3 (.pointer (some ⟨b3, 0, none⟩)) ((ev_ne (by decide)).trans (ev_same (by first | (rw [hz]; decide) | (simp only [size_put, hz]; decide))))
  have f4 := tr 4 (.pointer (some ⟨b4, 0, none⟩)) (ev_same (by first | (rw [hz]; decide) | (simp only [size_put, hz]; decide)))
  clear tr
  replace e0 := k4.ev e0 (by decide)
  replace e1 := k4.ev e1 (by decide)
  replace hz := k4.size.trans hz
  replace hd := k4.defers.trans hd
  have e2 := f2
  clear f2
  have e3 := f3
  clear f3
  have e4 := f4
  clear f4
  refine wp_seq ?_
  refine wp_seq ?_
  refine seq_startL (l := [0, 1, 2, 3, 4]) (by kernel_rfl) ?_
  refine seq_valD 7 (v := (.agg #[.int .i64 a.n, .slice a.A a.rows.length a.cap])) rfl rfl rfl (run_ldR rfl e2 (x2.cell 0) (x2.cell 1)) ?_
  refine seq_valD 8 (v := (.agg #[.int .i64 b.n, .slice b.A b.rows.length b.cap])) rfl rfl rfl (run_ldR rfl ((ev_ne (by decide)).trans e3) (x3.cell 0) (x3.cell 1)) ?_
  refine seq_valD 9 rfl rfl rfl (run_rels2 (a1 := a) (a2 := b) rfl (((ev_ne (by decide)).trans (ev_same (by first | (rw [hz]; decide) | (simp only [size_put, hz]; decide)))).trans hav.symm) ((ev_same (by first | (rw [hz]; decide) | (simp only [size_put, hz]; decide))).trans hbv.symm)) ?_
  have nx2_9 : b2 ≠ w3.heap.size := Nat.ne_of_lt x2.lt
  have nx3_9 : b3 ≠ w3.heap.size := Nat.ne_of_lt x3.lt
  have nx4_9 : b4 ≠ w3.heap.size := Nat.ne_of_lt x4.lt
  have x9 := RowT.new w3 26 ([a, b].flatMap RA.cells)
  replace x2 := x2.alloc (.cells (([a, b].flatMap RA.cells) : List Value).toArray 26)
  replace x3 := x3.alloc (.cells (([a, b].flatMap RA.cells) : List Value).toArray 26)
  replace x4 := x4.alloc (.cells (([a, b].flatMap RA.cells) : List Value).toArray 26)
  replace hB := hB.al (o := .cells (([a, b].flatMap RA.cells) : List Value).toArray 26)
  change wpOps _ _ _ _ _ (w3.alloc (.cells (([a, b].flatMap RA.cells) : List Value).toArray 26))
  generalize (w3.alloc (.cells (([a, b].flatMap RA.cells) : List Value).toArray 26)) = w5 at x2 x3 x4 x9 hB ⊢
  generalize hbq9 : w3.heap.size = b9 at x9 nx2_9 nx3_9 nx4_9 ⊢
  have hge9 : w0.heap.size ≤ b9 := by rw [← hbq9]; exact hS
  clear hbq9
  have hS := hB.size
  refine seq_callD 10 rfl rfl rfl en_alike rfl (args_one (ev_same (by first | (rw [hz]; decide) | (simp only [size_put, hz]; decide)))) ((ralike2 w5 hal x9 (ha.on hB) (hb.on hB)).mono ?_)
  rintro e w6 ⟨rfl, hb6⟩
  refine ⟨_, rfl, ?_⟩
  replace x2 := x2.below hb6 x2.lt
  replace x3 := x3.below hb6 x3.lt
  replace x4 := x4.below hb6 x4.lt
  replace x9 := x9.below hb6 x9.lt
  replace hB := Below.next hB hb6
  replace hS := hB.size
  refine seq_valD 11 (v := (.bool true)) rfl rfl rfl (run_not rfl (ev_same (by first | (rw [hz]; decide) | (simp only [size_put, hz]; decide)))) ?_
  refine seq_nil ?_
  refine seq_out ((((((KeepM.refl 7 [] a4).put (by decide)).put (by decide)).put (by decide)).put (by decide)).put (by decide)) fun a7 k7 tr => ?_
  have f11 := tr 11 (.bool true) (ev_same (by first | (rw [hz]; decide) | (simp only [size_put, hz]; decide)))
  clear tr
  replace e2 := k7.ev e2 (by decide)
  replace e3 := k7.ev e3 (by decide)
  replace e4 := k7.ev e4 (by decide)
  replace hz := k7.size.trans hz
  replace hd := k7.defers.trans hd
  have e11 := f11
  clear f11
  clear x9
  refine wp_cond_true e11 ?_
  refine wp_seq ?_
  refine seq_startL (l := [0, 1]) (by kernel_rfl) ?_
  refine seq_valD 12 (v := (.agg #[.int .i64 0, .slice none 0 0])) rfl rfl rfl (run_rel0 rfl) ?_
  refine seq_skipD rfl rfl rfl (run_stR rfl ((ev_ne (by decide)).trans e4) (ev_same (by first | (rw [hz]; decide) | (simp only [size_put, hz]; decide))) x4) ?_
  have y4 : RowT ((w6.setCell ⟨b4, 0, none⟩ (.int .i64 0)).setCell ⟨b4, 1, none⟩ (.slice none 0 0)) b4 26 [.int .i64 0, .slice none 0 0] := (x4.set_ 0 _).set_ 1 _
  replace x2 := (x2.far (p := ⟨b4, 0, none⟩) nx2_4 (.int .i64 0)).far (p := ⟨b4, 1, none⟩) nx2_4 (.slice none 0 0)
  replace x3 := (x3.far (p := ⟨b4, 0, none⟩) nx3_4 (.int .i64 0)).far (p := ⟨b4, 1, none⟩) nx3_4 (.slice none 0 0)
  replace hB := (hB.setCell (p := ⟨b4, 0, none⟩) hge4 (.int .i64 0)).setCell (p := ⟨b4, 1, none⟩) hge4 (.slice none 0 0)
  have x4 := y4
  clear y4
  generalize ((w6.setCell ⟨b4, 0, none⟩ (.int .i64 0)).setCell ⟨b4, 1, none⟩ (.slice none 0 0)) = w8 at x2 x3 x4 hB ⊢
  replace hS := hB.size
  refine seq_nil ?_
  refine seq_out ((KeepM.refl 7 [] a7).put (by decide)) fun a9 k9 tr => ?_
  clear tr
  replace e2 := k9.ev e2 (by decide)
  replace e3 := k9.ev e3 (by decide)
  replace e4 := k9.ev e4 (by decide)
  replace hz := k9.size.trans hz
  replace hd := k9.defers.trans hd
  refine wp_ret ?_
  exact post_cell rfl hd e4 x4 (fin_Z hB)
theorem C_rAnd : CallRRR 37 Pand := fun a b w _ ha hb _ _ => by
  unfold Pand
  cases hal : Palike [a.pr, b.pr] with
  | false => exact rAnd_bad a b w ha hb hal
  | true =>
    obtain ⟨h1, h2, _⟩ := ok_rows (Palike_ok hal a.pr (by simp)).1
    obtain ⟨k1, k2, _⟩ := ok_rows (Palike_ok hal b.pr (by simp)).1
    have hlt := (alike_lt hal b.pr (by simp)).1
    have := rAnd_ok a b a.rows.length w ha hb hal h1 (by rw [show b.n = b.pr.n from rfl, k1, hlt]; rfl) rfl hlt h2
    rw [if_pos rfl, show a.pr.n = ((a.rows.length : Nat) : Int) from h1]
    exact this
set_option maxRecDepth 100000 in
set_option maxHeartbeats 4000000 in
theorem rLess_ok (a b : RA) (N : Nat) (w0 : World) (ha : a.good w0) (hb : b.good w0) (hal : Palike [a.pr, b.pr] = true) (hna : a.n = (N : Nat)) (hnb : b.n = (N : Nat)) (hla : a.rows.length = N) (hlb : b.rows.length = N) (h64 : N ≤ 64) :
    Calls Tryd.prog 39 #[a.val, b.val] w0 (RetR w0 ⟨((N : Nat) : Int), (List.range N).map fun i => a.rows.getD i 0 &&& (18446744073709551615 - b.rows.getD i 0)⟩) := by
  have hav : a.val = (.agg #[.int .i64 ((N : Nat) : Int), .slice a.A N a.cap]) := by unfold RA.val; rw [hna, hla]
  have hbv : b.val = (.agg #[.int .i64 ((N : Nat) : Int), .slice b.A N b.cap]) := by unfold RA.val; rw [hnb, hlb]
  rw [hav, hbv]
  refine calls_of_wp Tryd.func39 rfl ?_
  obtain ⟨hz, e0, e1⟩ := start_act2 38 ((.agg #[.int .i64 ((N : Nat) : Int), .slice a.A N a.cap])) ((.agg #[.int .i64 ((N : Nat) : Int), .slice b.A N b.cap])) (by decide)
  have hd : ({ tmps := #[(.agg #[.int .i64 ((N : Nat) : Int), .slice a.A N a.cap]), (.agg #[.int .i64 ((N : Nat) : Int), .slice b.A N b.cap])] ++ Array.replicate (38 - 2) undef, defers := [] } : Act).defers = [] := rfl
  rw [show Tryd.f39.ntmps - (#[(.agg #[.int .i64 ((N : Nat) : Int), .slice a.A N a.cap]), (.agg #[.int .i64 ((N : Nat) : Int), .slice b.A N b.cap])] : Array Value).size = 38 - 2 from rfl]
  generalize ({ tmps := #[(.agg #[.int .i64 ((N : Nat) : Int), .slice a.A N a.cap]), (.agg #[.int .i64 ((N : Nat) : Int), .slice b.A N b.cap])] ++ Array.replicate (38 - 2) undef, defers := [] } : Act) = a0 at hz e0 e1 hd ⊢
  have hB : Below w0.heap.size w0 w0 := Below.refl _ _
  have hS := hB.size
  refine wp_seq ?_
  refine seq_startL (l := [0, 1, 2]) (by kernel_rfl) ?_
  refine seq_valD 2 rfl rfl rfl (run_boxC rfl e0) ?_
  have x2 := RowT.new w0 26 [.int .i64 ((N : Nat) : Int), .slice a.A N a.cap]
  replace hB := hB.al (o := .cells ([.int .i64 ((N : Nat) : Int), .slice a.A N a.cap] : List Value).toArray 26)
  change wpOps _ _ _ _ _ (w0.alloc (.cells ([.int .i64 ((N : Nat) : Int), .slice a.A N a.cap] : List Value).toArray 26))
  generalize (w0.alloc (.cells ([.int .i64 ((N : Nat) : Int), .slice a.A N a.cap] : List Value).toArray 26)) = w1 at x2 hB ⊢
  generalize hbq2 : w0.heap.size = b2 at x2 ⊢
  have hge2 : w0.heap.size ≤ b2 := by rw [← hbq2]; exact hS
  clear hbq2
  have hS := hB.size
  refine seq_valD 3 rfl rfl rfl (run_boxC rfl ((ev_ne (by decide)).trans e1)) ?_
  have nx2_3 : b2 ≠ w1.heap.size := Nat.ne_of_lt x2.lt
  have x3 := RowT.new w1 26 [.int .i64 ((N : Nat) : Int), .slice b.A N b.cap]
  replace x2 := x2.alloc (.cells ([.int .i64 ((N : Nat) : Int), .slice b.A N b.cap] : List Value).toArray 26)
  replace hB := hB.al (o := .cells ([.int .i64 ((N : Nat) : Int), .slice b.A N b.cap] : List Value).toArray 26)
  change wpOps _ _ _ _ _ (w1.alloc (.cells ([.int .i64 ((N : Nat) : Int), .slice b.A N b.cap] : List Value).toArray 26))
  generalize (w1.alloc (.cells ([.int .i64 ((N : Nat) : Int), .slice b.A N b.cap] : List Value).toArray 26)) = w2 at x2 x3 hB ⊢
  generalize hbq3 : w1.heap.size = b3 at x3 nx2_3 ⊢
  have hge3 : w0.heap.size ≤ b3 := by rw [← hbq3]; exact hS
  clear hbq3
  have hS := hB.size
  refine seq_valD 4 rfl rfl rfl (run_allocR rfl rfl) ?_
  have nx2_4 : b2 ≠ w2.heap.size := Nat.ne_of_lt x2.lt
  have nx3_4 : b3 ≠ w2.heap.size := Nat.ne_of_lt x3.lt
  have x4 := RowT.new w2 26 [.int .i64 0, .slice none 0 0]
  replace x2 := x2.alloc (.cells ([.int .i64 0, .slice none 0 0] : List Value).toArray 26)
  replace x3 := x3.alloc (.cells ([.int .i64 0, .slice none 0 0] : List Value).toArray 26)
  replace hB := hB.al (o := .cells ([.int .i64 0, .slice none 0 0] : List Value).toArray 26)
  change wpOps _ _ _ _ _ (w2.alloc (.cells ([.int .i64 0, .slice none 0 0] : List Value).toArray 26))
  generalize (w2.alloc (.cells ([.int .i64 0, .slice none 0 0] : List Value).toArray 26)) = w3 at x2 x3 x4 hB ⊢
  generalize hbq4 : w2.heap.size = b4 at x4 nx2_4 nx3_4 ⊢
  have hge4 : w0.heap.size ≤ b4 := by rw [← hbq4]; exact hS
  clear hbq4
  have hS := hB.size
  refine seq_nil ?_
  refine seq_out ((((KeepM.refl 7 [2, 3, 4] a0).put (by decide)).put (by decide)).put (by decide)) fun a4 k4 tr => ?_
  have f2 := tr 2 (.pointer (some ⟨b2, 0, none⟩)) ((ev_ne (by decide)).trans ((ev_ne (by decide)).trans (ev_same (by first | (rw [hz]; decide) | (simp only [size_put, hz]; decide)))))
  have f3 := tr 3 (.pointer (some ⟨b3, 0, none⟩)) ((ev_ne (by decide)).trans (ev_same (by first | (rw [hz]; decide) | (simp only [size_put, hz]; decide))))
  have f4 := tr 4 (.pointer (some ⟨b4, 0, none⟩)) (ev_same (by first | (rw [hz]; decide) | (simp only [size_put, hz]; decide)))
  clear tr
  replace e0 := k4.ev e0 (by decide)
  replace e1 := k4.ev e1 (by decide)
  replace hz := k4.size.trans hz
  replace hd := k4.defers.trans hd
  have e2 := f2
  clear f2
  have e3 := f3
  clear f3
  have e4 := f4
  clear f4
  refine wp_seq ?_
  refine wp_seq ?_
  refine seq_startL (l := [0, 1, 2, 3, 4]) (by kernel_rfl) ?_
  refine seq_valD 7 (v := (.agg #[.int .i64 ((N : Nat) : Int), .slice a.A N a.cap])) rfl rfl rfl (run_ldR rfl e2 (x2.cell 0) (x2.cell 1)) ?_
  refine seq_valD 8 (v := (.agg #[.int .i64 ((N : Nat) : Int), .slice b.A N b.cap])) rfl rfl rfl (run_ldR rfl ((ev_ne (by decide)).trans e3) (x3.cell 0) (x3.cell 1)) ?_
  refine seq_valD 9 rfl rfl rfl (run_rels2 (a1 := a) (a2 := b) rfl (((ev_ne (by decide)).trans (ev_same (by first | (rw [hz]; decide) | (simp only [size_put, hz]; decide)))).trans hav.symm) ((ev_same (by first | (rw [hz]; decide) | (simp only [size_put, hz]; decide))).trans hbv.symm)) ?_
  have nx2_9 : b2 ≠ w3.heap.size := Nat.ne_of_lt x2.lt
  have nx3_9 : b3 ≠ w3.heap.size := Nat.ne_of_lt x3.lt
  have nx4_9 : b4 ≠ w3.heap.size := Nat.ne_of_lt x4.lt
  have x9 := RowT.new w3 26 ([a, b].flatMap RA.cells)
  replace x2 := x2.alloc (.cells (([a, b].flatMap RA.cells) : List Value).toArray 26)
  replace x3 := x3.alloc (.cells (([a, b].flatMap RA.cells) : List Value).toArray 26)
  replace x4 := x4.alloc (.cells (([a, b].flatMap RA.cells) : List Value).toArray 26)
  replace hB := hB.al (o := .cells (([a, b].flatMap RA.cells) : List Value).toArray 26)
  change wpOps _ _ _ _ _ (w3.alloc (.cells (([a, b].flatMap RA.cells) : List Value).toArray 26))
  generalize (w3.alloc (.cells (([a, b].flatMap RA.cells) : List Value).toArray 26)) = w5 at x2 x3 x4 x9 hB ⊢
  generalize hbq9 : w3.heap.size = b9 at x9 nx2_9 nx3_9 nx4_9 ⊢
  have hge9 : w0.heap.size ≤ b9 := by rw [← hbq9]; exact hS
  clear hbq9
  have hS := hB.size
  refine seq_callD 10 rfl rfl rfl en_alike rfl (args_one (ev_same (by first | (rw [hz]; decide) | (simp only [size_put, hz]; decide)))) ((ralike2 w5 hal x9 (ha.on hB) (hb.on hB)).mono ?_)
  rintro e w6 ⟨rfl, hb6⟩
  refine ⟨_, rfl, ?_⟩
  replace x2 := x2.below hb6 x2.lt
  replace x3 := x3.below hb6 x3.lt
  replace x4 := x4.below hb6 x4.lt
  replace x9 := x9.below hb6 x9.lt
  replace hB := Below.next hB hb6
  replace hS := hB.size
  refine seq_valD 11 (v := (.bool false)) rfl rfl rfl (run_not rfl (ev_same (by first | (rw [hz]; decide) | (simp only [size_put, hz]; decide)))) ?_
  refine seq_nil ?_
  refine seq_out ((((((KeepM.refl 7 [] a4).put (by decide)).put (by decide)).put (by decide)).put (by decide)).put (by decide)) fun a7 k7 tr => ?_
  have f11 := tr 11 (.bool false) (ev_same (by first | (rw [hz]; decide) | (simp only [size_put, hz]; decide)))
  clear tr
  replace e2 := k7.ev e2 (by decide)
  replace e3 := k7.ev e3 (by decide)
  replace e4 := k7.ev e4 (by decide)
  replace hz := k7.size.trans hz
  replace hd := k7.defers.trans hd
  have e11 := f11
  clear f11
  clear x9
  refine wp_cond_false e11 ?_
  refine wp_skip ?_
  refine wp_seq ?_
  refine seq_startL (l := [0, 1, 2, 3, 4]) (by kernel_rfl) ?_
  refine seq_valD 13 (v := (.pointer (some ⟨b2, 0, none⟩))) rfl rfl rfl (run_fp0 rfl e2) ?_
  refine seq_valD 14 (v := (.int .i64 ((N : Nat) : Int))) rfl rfl rfl (run_ldI rfl (ev_same (by first | (rw [hz]; decide) | (simp only [size_put, hz]; decide))) (x2.cell 0)) ?_
  refine seq_callD 15 rfl rfl rfl en_rNone rfl (args_one (ev_same (by first | (rw [hz]; decide) | (simp only [size_put, hz]; decide)))) ((rnone_ok N w6 h64).mono ?_)
  rintro e w8 ⟨v8, rfl, ⟨g, rfl, hgg, y⟩, hb8⟩
  refine ⟨_, rfl, ?_⟩
  replace hgg : w0.heap.size ≤ g := Nat.le_trans hS hgg
  replace x2 := x2.below hb8 x2.lt
  replace x3 := x3.below hb8 x3.lt
  replace x4 := x4.below hb8 x4.lt
  replace hB := Below.next hB hb8
  replace hS := hB.size
  refine seq_valD 5 rfl rfl rfl (run_allocR rfl rfl) ?_
  have nx2_5 : b2 ≠ w8.heap.size := Nat.ne_of_lt x2.lt
  have nx3_5 : b3 ≠ w8.heap.size := Nat.ne_of_lt x3.lt
  have nx4_5 : b4 ≠ w8.heap.size := Nat.ne_of_lt x4.lt
  have x5 := RowT.new w8 26 [.int .i64 0, .slice none 0 0]
  replace x2 := x2.alloc (.cells ([.int .i64 0, .slice none 0 0] : List Value).toArray 26)
  replace x3 := x3.alloc (.cells ([.int .i64 0, .slice none 0 0] : List Value).toArray 26)
  replace x4 := x4.alloc (.cells ([.int .i64 0, .slice none 0 0] : List Value).toArray 26)
  replace y := y.alloc (.cells ([.int .i64 0, .slice none 0 0] : List Value).toArray 26)
  replace hB := hB.al (o := .cells ([.int .i64 0, .slice none 0 0] : List Value).toArray 26)
  change wpOps _ _ _ _ _ (w8.alloc (.cells ([.int .i64 0, .slice none 0 0] : List Value).toArray 26))
  generalize (w8.alloc (.cells ([.int .i64 0, .slice none 0 0] : List Value).toArray 26)) = w9 at x2 x3 x4 y x5 hB ⊢
  generalize hbq5 : w8.heap.size = b5 at x5 nx2_5 nx3_5 nx4_5 ⊢
  have hge5 : w0.heap.size ≤ b5 := by rw [← hbq5]; exact hS
  clear hbq5
  have hS := hB.size
  refine seq_skipD rfl rfl rfl (run_stR rfl (ev_same (by first | (rw [hz]; decide) | (simp only [size_put, hz]; decide))) ((ev_ne (by decide)).trans (ev_same (by first | (rw [hz]; decide) | (simp only [size_put, hz]; decide)))) x5) ?_
  have y5 : RowT ((w9.setCell ⟨b5, 0, none⟩ (.int .i64 ((N : Nat) : Int))).setCell ⟨b5, 1, none⟩ (.slice (some ⟨g, 0, none⟩) N N)) b5 26 [.int .i64 ((N : Nat) : Int), .slice (some ⟨g, 0, none⟩) N N] := (x5.set_ 0 _).set_ 1 _
  replace x2 := (x2.far (p := ⟨b5, 0, none⟩) nx2_5 (.int .i64 ((N : Nat) : Int))).far (p := ⟨b5, 1, none⟩) nx2_5 (.slice (some ⟨g, 0, none⟩) N N)
  replace x3 := (x3.far (p := ⟨b5, 0, none⟩) nx3_5 (.int .i64 ((N : Nat) : Int))).far (p := ⟨b5, 1, none⟩) nx3_5 (.slice (some ⟨g, 0, none⟩) N N)
  replace x4 := (x4.far (p := ⟨b5, 0, none⟩) nx4_5 (.int .i64 ((N : Nat) : Int))).far (p := ⟨b5, 1, none⟩) nx4_5 (.slice (some ⟨g, 0, none⟩) N N)
  replace y := (y.keep (i := 0) x5 (by decide) (.int .i64 ((N : Nat) : Int))).keep (i := 1) (x5.set_ 0 (.int .i64 ((N : Nat) : Int))) (by decide) (.slice (some ⟨g, 0, none⟩) N N)
  replace hB := (hB.setCell (p := ⟨b5, 0, none⟩) hge5 (.int .i64 ((N : Nat) : Int))).setCell (p := ⟨b5, 1, none⟩) hge5 (.slice (some ⟨g, 0, none⟩) N N)
  have x5 := y5
  clear y5
  generalize ((w9.setCell ⟨b5, 0, none⟩ (.int .i64 ((N : Nat) : Int))).setCell ⟨b5, 1, none⟩ (.slice (some ⟨g, 0, none⟩) N N)) = w10 at x2 x3 x4 y x5 hB ⊢
  replace hS := hB.size
  refine seq_nil ?_
  refine seq_out (((((KeepM.refl 7 [5] a7).put (by decide)).put (by decide)).put (by decide)).put (by decide)) fun a11 k11 tr => ?_
  have f5 := tr 5 (.pointer (some ⟨b5, 0, none⟩)) (ev_same (by first | (rw [hz]; decide) | (simp only [size_put, hz]; decide)))
  clear tr
  replace e2 := k11.ev e2 (by decide)
  replace e3 := k11.ev e3 (by decide)
  replace e4 := k11.ev e4 (by decide)
  replace hz := k11.size.trans hz
  replace hd := k11.defers.trans hd
  have e5 := f5
  clear f5
  have y0 : RowT w10 g 37 (((List.range N).map (midF (fun i => a.rows.getD i 0 &&& (18446744073709551615 - b.rows.getD i 0)) 0)).map U) := by rw [midF_zero]; exact y
  clear y
  have y := y0
  clear y0
  refine wp_seq ?_
  refine wp_seq ?_
  refine seq_startL (l := [0]) (by kernel_rfl) ?_
  refine seq_assign 6 (v := (.int .i64 0)) rfl rfl rfl rfl rfl ?_
  refine seq_nil ?_
  refine seq_out ((KeepM.refl 7 [6] a11).put (by decide)) fun a12 k12 tr => ?_
  have f6 := tr 6 (.int .i64 0) (ev_same (by first | (rw [hz]; decide) | (simp only [size_put, hz]; decide)))
  clear tr
  replace e2 := k12.ev e2 (by decide)
  replace e3 := k12.ev e3 (by decide)
  replace e4 := k12.ev e4 (by decide)
  replace e5 := k12.ev e5 (by decide)
  replace hz := k12.size.trans hz
  replace hd := k12.defers.trans hd
  have e6 := f6
  clear f6
  refine wp_block ?_
  refine wp_loop (fun aq wq => ∃ (k : Nat), (k ≤ N) ∧ KeepM 7 [6] a12 aq ∧ aq.eval (.tmp 6) = (.int .i64 ((k : Nat) : Int)) ∧ RowT wq b2 26 [.int .i64 ((N : Nat) : Int), .slice a.A N a.cap] ∧ RowT wq b3 26 [.int .i64 ((N : Nat) : Int), .slice b.A N b.cap] ∧ RowT wq b4 26 [.int .i64 0, .slice none 0 0] ∧ RowT wq g 37 (((List.range N).map (midF (fun i => a.rows.getD i 0 &&& (18446744073709551615 - b.rows.getD i 0)) k)).map U) ∧ RowT wq b5 26 [.int .i64 ((N : Nat) : Int), .slice (some ⟨g, 0, none⟩) N N] ∧ Below w0.heap.size w0 wq) (fun aq _ => N - (intOf (aq.eval (.tmp 6))).toNat) ⟨0, Nat.zero_le _, KeepM.refl _ _ _, e6, x2, x3, x4, y, x5, hB⟩ ?_
  rintro a13 w13 ⟨k, hk0, kk0, g6, qx2, qx3, qx4, qy, qx5, qB⟩
  replace e2 := kk0.ev e2 (by decide)
  replace e3 := kk0.ev e3 (by decide)
  replace e4 := kk0.ev e4 (by decide)
  replace e5 := kk0.ev e5 (by decide)
  replace hz := kk0.size.trans hz
  replace hd := kk0.defers.trans hd
  clear e6 x2 x3 x4 y x5 hB hS
  have e6 := g6
  have x2 := qx2
  have x3 := qx3
  have x4 := qx4
  have y := qy
  have x5 := qx5
  have hB := qB
  have hS := hB.size
  clear qx2 qx3 qx4 qy qx5 qB
  have e6s := e6
  refine wp_seq ?_
  refine wp_seq ?_
  refine seq_startL (l := [0, 1, 2, 3]) (by kernel_rfl) ?_
  refine seq_move 16 (v := (.int .i64 ((k : Nat) : Int))) rfl rfl rfl rfl e6 ?_
  refine seq_valD 17 (v := (.pointer (some ⟨b5, 0, none⟩))) rfl rfl rfl (run_fp0 rfl ((ev_ne (by decide)).trans e5)) ?_
  refine seq_valD 18 (v := (.int .i64 ((N : Nat) : Int))) rfl rfl rfl (run_ldI rfl (ev_same (by first | (rw [hz]; decide) | (simp only [size_put, hz]; decide))) (x5.cell 0)) ?_
  refine seq_valD 19 (v := (.bool (decide (((k : Nat) : Int) < ((N : Nat) : Int))))) rfl rfl rfl (run_ltI rfl ((ev_ne (by decide)).trans ((ev_ne (by decide)).trans (ev_same (by first | (rw [hz]; decide) | (simp only [size_put, hz]; decide))))) (ev_same (by first | (rw [hz]; decide) | (simp only [size_put, hz]; decide)))) ?_
  refine seq_nil ?_
  refine seq_out (((((KeepM.refl 7 [] a13).put (by decide)).put (by decide)).put (by decide)).put (by decide)) fun a14 k14 tr => ?_
  have f19 := tr 19 (.bool (decide (((k : Nat) : Int) < ((N : Nat) : Int)))) (ev_same (by first | (rw [hz]; decide) | (simp only [size_put, hz]; decide)))
  clear tr
  replace e2 := k14.ev e2 (by decide)
  replace e3 := k14.ev e3 (by decide)
  replace e4 := k14.ev e4 (by decide)
  replace e5 := k14.ev e5 (by decide)
  replace e6 := k14.ev e6 (by decide)
  replace hz := k14.size.trans hz
  replace hd := k14.defers.trans hd
  replace kk0 := kk0.trans (k14.mono (ys := [6]) (by decide))
  have e19 := f19
  clear f19
  by_cases hlt : k < N
  · rw [decide_eq_true (by omega)] at e19
    refine wp_cond_true e19 ?_
    refine wp_skip ?_
    refine wp_seq ?_
    refine wp_block ?_
    obtain ⟨ad, hA, hal1, hcA, huA⟩ := good_row (ha.on hB) (k := k) (by omega)
    obtain ⟨bd, hBB, hbl1, hcB, huB⟩ := good_row (hb.on hB) (k := k) (by omega)
    have hlast : lastOk (regOps Tryd.f39 7) 15 = true := by kernel_rfl
    refine region_w (n := 16) [some (.pointer (some ⟨b5, 1, none⟩)), some (.slice (some ⟨g, 0, none⟩) N N), some (.int .i64 ((k : Nat) : Int)), some (.pointer (some ⟨b2, 1, none⟩)), some (.slice (some ad) N a.cap), some (.int .i64 ((k : Nat) : Int)), some (.pointer (some (ad.add k))), some (.int .u64 (((a.rows.getD k 0) : Nat) : Int)), some (.pointer (some ⟨b3, 1, none⟩)), some (.slice (some bd) N b.cap), some (.int .i64 ((k : Nat) : Int)), some (.pointer (some (bd.add k))), some (.int .u64 (((b.rows.getD k 0) : Nat) : Int)), some (.int .u64 ((((a.rows.getD k 0) &&& (18446744073709551615 - (b.rows.getD k 0))) : Nat) : Int)), some (.pointer (some ((⟨g, 0, none⟩ : Addr).add k))), none] 15 w13 (w13.drew.setCell ((⟨g, 0, none⟩ : Addr).add k) (.int .u64 ((((a.rows.getD k 0) &&& (18446744073709551615 - (b.rows.getD k 0))) : Nat) : Int))) (by kernel_rfl) (by rw [hz]; kernel_rfl) (by kernel_rfl) (by kernel_rfl) (by kernel_rfl) (by kernel_rfl) ?_ fun L a15 w15 hL st => ?_
    · refine ⟨⟨⟨⟨⟨⟨⟨⟨⟨⟨⟨⟨⟨⟨⟨⟨trivial, ?_⟩, ?_⟩, ?_⟩, ?_⟩, ?_⟩, ?_⟩, ?_⟩, ?_⟩, ?_⟩, ?_⟩, ?_⟩, ?_⟩, ?_⟩, ?_⟩, ?_⟩, ?_⟩
      · intro o a w L ho hL haft st; obtain rfl := Option.some.inj ho; exact payW st hlast hL (by decide) (want_none rfl) (run_fp1 rfl (st.outV (by kernel_rfl) e5)) rfl
      · intro o a w L ho hL haft st; obtain rfl := Option.some.inj ho; exact payW st hlast hL (by decide) (want_none rfl) (run_ldS rfl (st.argV (j := 0) (aft_of haft (by kernel_rfl)) rfl rfl) (x5.cell 1)) rfl
      · intro o a w L ho hL haft st; obtain rfl := Option.some.inj ho; exact payW_move st hlast hL (by decide) (want_none rfl) rfl (st.outV (by kernel_rfl) e6) rfl
      · intro o a w L ho hL haft st; obtain rfl := Option.some.inj ho; exact payW st hlast hL (by decide) (want_none rfl) (run_fp1 rfl (st.outV (by kernel_rfl) e2)) rfl
      · intro o a w L ho hL haft st; obtain rfl := Option.some.inj ho; exact payW st hlast hL (by decide) (want_none rfl) (run_ldS rfl (st.argV (j := 3) (aft_of haft (by kernel_rfl)) rfl rfl) (by rw [← hA]; exact x2.cell 1)) rfl
      · intro o a w L ho hL haft st; obtain rfl := Option.some.inj ho; exact payW_move st hlast hL (by decide) (want_none rfl) rfl (st.outV (by kernel_rfl) e6) rfl
      · intro o a w L ho hL haft st; obtain rfl := Option.some.inj ho; exact payW st hlast hL (by decide) (want_none rfl) (run_ixU (k := k) rfl (st.argV (j := 4) (aft_of haft (by kernel_rfl)) rfl rfl) (st.argV (j := 5) (aft_of haft (by kernel_rfl)) rfl rfl) hlt) rfl
      · intro o a w L ho hL haft st; obtain rfl := Option.some.inj ho; exact payW st hlast hL (by decide) (want_none rfl) (run_ldU rfl (st.argV (j := 6) (aft_of haft (by kernel_rfl)) rfl rfl) hcA) rfl
      · intro o a w L ho hL haft st; obtain rfl := Option.some.inj ho; exact payW st hlast hL (by decide) (want_none rfl) (run_fp1 rfl (st.outV (by kernel_rfl) e3)) rfl
      · intro o a w L ho hL haft st; obtain rfl := Option.some.inj ho; exact payW st hlast hL (by decide) (want_none rfl) (run_ldS rfl (st.argV (j := 8) (aft_of haft (by kernel_rfl)) rfl rfl) (by rw [← hBB]; exact x3.cell 1)) rfl
      · intro o a w L ho hL haft st; obtain rfl := Option.some.inj ho; exact payW_move st hlast hL (by decide) (want_none rfl) rfl (st.outV (by kernel_rfl) e6) rfl
      · intro o a w L ho hL haft st; obtain rfl := Option.some.inj ho; exact payW st hlast hL (by decide) (want_none rfl) (run_ixU (k := k) rfl (st.argV (j := 9) (aft_of haft (by kernel_rfl)) rfl rfl) (st.argV (j := 10) (aft_of haft (by kernel_rfl)) rfl rfl) hlt) rfl
      · intro o a w L ho hL haft st; obtain rfl := Option.some.inj ho; exact payW st hlast hL (by decide) (want_none rfl) (run_ldU rfl (st.argV (j := 11) (aft_of haft (by kernel_rfl)) rfl rfl) hcB) rfl
      · intro o a w L ho hL haft st; obtain rfl := Option.some.inj ho; exact payW st hlast hL (by decide) (want_none rfl) (run_andNotU rfl (st.argV (j := 7) (aft_of haft (by kernel_rfl)) rfl rfl) (st.argV (j := 12) (aft_of haft (by kernel_rfl)) rfl rfl) huA huB) rfl
      · intro o a w L ho hL haft st; obtain rfl := Option.some.inj ho; exact payW st hlast hL (by decide) (want_none rfl) (run_ixU (k := k) rfl (st.argV (j := 1) (aft_of haft (by kernel_rfl)) rfl rfl) (st.argV (j := 2) (aft_of haft (by kernel_rfl)) rfl rfl) hlt) rfl
      · intro o a w L ho hL haft st; obtain rfl := Option.some.inj ho; exact storeW st hlast hL (want_none rfl) (run_stU rfl (st.argV (j := 14) (aft_of haft (by kernel_rfl)) rfl rfl) (st.argV (j := 13) (aft_of haft (by kernel_rfl)) rfl rfl) (y.addc (row_get hlt)) y.addf) rfl
    clear hlast
    obtain rfl := st.end2 hL (by omega)
    have k15 : KeepM 7 [] a14 a15 := st.keepM (by kernel_rfl)
    clear st hL L
    replace e2 := k15.ev e2 (by decide)
    replace e3 := k15.ev e3 (by decide)
    replace e4 := k15.ev e4 (by decide)
    replace e5 := k15.ev e5 (by decide)
    replace e6 := k15.ev e6 (by decide)
    replace hz := k15.size.trans hz
    replace hd := k15.defers.trans hd
    replace kk0 := kk0.trans (k15.mono (ys := [6]) (by decide))
    rw [add0]
    replace x2 := x2.drew.keep (i := k) y.drew (by decide) (.int .u64 ((((a.rows.getD k 0) &&& (18446744073709551615 - (b.rows.getD k 0))) : Nat) : Int))
    replace x3 := x3.drew.keep (i := k) y.drew (by decide) (.int .u64 ((((a.rows.getD k 0) &&& (18446744073709551615 - (b.rows.getD k 0))) : Nat) : Int))
    replace x4 := x4.drew.keep (i := k) y.drew (by decide) (.int .u64 ((((a.rows.getD k 0) &&& (18446744073709551615 - (b.rows.getD k 0))) : Nat) : Int))
    replace x5 := x5.drew.keep (i := k) y.drew (by decide) (.int .u64 ((((a.rows.getD k 0) &&& (18446744073709551615 - (b.rows.getD k 0))) : Nat) : Int))
    replace y := row_set (F' := midF (fun i => a.rows.getD i 0 &&& (18446744073709551615 - b.rows.getD i 0)) (k + 1)) y.drew (fun i => midF_succ _ k i)
    replace hB := hB.drew.setCell (p := ⟨g, k, none⟩) hgg (.int .u64 ((((a.rows.getD k 0) &&& (18446744073709551615 - (b.rows.getD k 0))) : Nat) : Int))
    generalize (w13.drew.setCell ⟨g, k, none⟩ (.int .u64 ((((a.rows.getD k 0) &&& (18446744073709551615 - (b.rows.getD k 0))) : Nat) : Int))) = w16 at x2 x3 x4 y x5 hB ⊢
    replace hS := hB.size
    refine seq_startL (l := [0, 1, 2]) (by kernel_rfl) ?_
    refine seq_move 20 (v := (.int .i64 ((k : Nat) : Int))) rfl rfl rfl rfl e6 ?_
    refine seq_valD 21 (v := (.int .i64 ((k + 1 : Nat) : Int))) rfl rfl rfl (run_incI rfl (ev_same (by first | (rw [hz]; decide) | (simp only [size_put, hz]; decide))) rfl (by omega)) ?_
    refine seq_assign 6 (v := (.int .i64 ((k + 1 : Nat) : Int))) rfl rfl rfl rfl (ev_same (by first | (rw [hz]; decide) | (simp only [size_put, hz]; decide))) ?_
    refine seq_nil ?_
    refine seq_out ((((KeepM.refl 7 [6] a15).put (by decide)).put (by decide)).put (by decide)) fun a17 k17 tr => ?_
    have f6 := tr 6 (.int .i64 ((k + 1 : Nat) : Int)) (ev_same (by first | (rw [hz]; decide) | (simp only [size_put, hz]; decide)))
    clear tr
    replace e2 := k17.ev e2 (by decide)
    replace e3 := k17.ev e3 (by decide)
    replace e4 := k17.ev e4 (by decide)
    replace e5 := k17.ev e5 (by decide)
    replace hz := k17.size.trans hz
    replace hd := k17.defers.trans hd
    replace kk0 := kk0.trans (k17.mono (ys := [6]) (by decide))
    have e6 := f6
    clear f6
    refine ⟨⟨k + 1, by omega, kk0, e6, x2, x3, x4, y, x5, hB⟩, ?_⟩
    rw [e6, e6s]; simp [intOf]; omega
  · rw [decide_eq_false (by omega)] at e19
    refine wp_cond_false e19 ?_
    refine wp_exit ?_
    refine exit_here1 (id := 0) ?_
    obtain rfl : N = k := by omega
    refine wp_seq ?_
    refine seq_startL (l := [0, 1]) (by kernel_rfl) ?_
    refine seq_valD 37 (v := (.agg #[.int .i64 ((N : Nat) : Int), .slice (some ⟨g, 0, none⟩) N N])) rfl rfl rfl (run_ldR rfl e5 (x5.cell 0) (x5.cell 1)) ?_
    refine seq_skipD rfl rfl rfl (run_stR rfl ((ev_ne (by decide)).trans e4) (ev_same (by first | (rw [hz]; decide) | (simp only [size_put, hz]; decide))) x4) ?_
    have y4 : RowT ((w13.setCell ⟨b4, 0, none⟩ (.int .i64 ((N : Nat) : Int))).setCell ⟨b4, 1, none⟩ (.slice (some ⟨g, 0, none⟩) N N)) b4 26 [.int .i64 ((N : Nat) : Int), .slice (some ⟨g, 0, none⟩) N N] := (x4.set_ 0 _).set_ 1 _
    replace x2 := (x2.far (p := ⟨b4, 0, none⟩) nx2_4 (.int .i64 ((N : Nat) : Int))).far (p := ⟨b4, 1, none⟩) nx2_4 (.slice (some ⟨g, 0, none⟩) N N)
    replace x3 := (x3.far (p := ⟨b4, 0, none⟩) nx3_4 (.int .i64 ((N : Nat) : Int))).far (p := ⟨b4, 1, none⟩) nx3_4 (.slice (some ⟨g, 0, none⟩) N N)
    replace y := (y.keep (i := 0) x4 (by decide) (.int .i64 ((N : Nat) : Int))).keep (i := 1) (x4.set_ 0 (.int .i64 ((N : Nat) : Int))) (by decide) (.slice (some ⟨g, 0, none⟩) N N)
    replace x5 := (x5.far (p := ⟨b4, 0, none⟩) nx4_5.symm (.int .i64 ((N : Nat) : Int))).far (p := ⟨b4, 1, none⟩) nx4_5.symm (.slice (some ⟨g, 0, none⟩) N N)
    replace hB := (hB.setCell (p := ⟨b4, 0, none⟩) hge4 (.int .i64 ((N : Nat) : Int))).setCell (p := ⟨b4, 1, none⟩) hge4 (.slice (some ⟨g, 0, none⟩) N N)
    have x4 := y4
    clear y4
    generalize ((w13.setCell ⟨b4, 0, none⟩ (.int .i64 ((N : Nat) : Int))).setCell ⟨b4, 1, none⟩ (.slice (some ⟨g, 0, none⟩) N N)) = w18 at x2 x3 x4 y x5 hB ⊢
    replace hS := hB.size
    refine seq_nil ?_
    refine seq_out ((KeepM.refl 7 [] a14).put (by decide)) fun a19 k19 tr => ?_
    clear tr
    replace e2 := k19.ev e2 (by decide)
    replace e3 := k19.ev e3 (by decide)
    replace e4 := k19.ev e4 (by decide)
    replace e5 := k19.ev e5 (by decide)
    replace e6 := k19.ev e6 (by decide)
    replace hz := k19.size.trans hz
    replace hd := k19.defers.trans hd
    rw [midF_full] at y
    refine wp_ret ?_
    exact post_cell rfl hd e4 x4 (fin_R y (by simp) (by intro x hx; obtain ⟨i, _, rfl⟩ := List.mem_map.1 hx; exact Nat.lt_of_le_of_lt Nat.and_le_left (getD_u ha.1 i)) hB)
set_option maxRecDepth 100000 in
theorem rLess_bad (a b : RA) (w0 : World) (ha : a.good w0) (hb : b.good w0) (hal : Palike [a.pr, b.pr] = false) :
    Calls Tryd.prog 39 #[a.val, b.val] w0 (RetR w0 PR.zero) := by
  have hav : a.val = (.agg #[.int .i64 a.n, .slice a.A a.rows.length a.cap]) := rfl
  have hbv : b.val = (.agg #[.int .i64 b.n, .slice b.A b.rows.length b.cap]) := rfl
  rw [hav, hbv]
  refine calls_of_wp Tryd.func39 rfl ?_
  obtain ⟨hz, e0, e1⟩ := start_act2 38 ((.agg #[.int .i64 a.n, .slice a.A a.rows.length a.cap])) ((.agg #[.int .i64 b.n, .slice b.A b.rows.length b.cap])) (by decide)
  have hd : ({ tmps := #[(.agg #[.int .i64 a.n, .slice a.A a.rows.length a.cap]), (.agg #[.int .i64 b.n, .slice b.A b.rows.length b.cap])] ++ Array.replicate (38 - 2) undef, defers := [] } : Act).defers = [] := rfl
  rw [show Tryd.f39.ntmps - (#[(.agg #[.int .i64 a.n, .slice a.A a.rows.length a.cap]), (.agg #[.int .i64 b.n, .slice b.A b.rows.length b.cap])] : Array Value).size = 38 - 2 from rfl]
  generalize ({ tmps := #[(.agg #[.int .i64 a.n, .slice a.A a.rows.length a.cap]), (.agg #[.int .i64 b.n, .slice b.A b.rows.length b.cap])] ++ Array.replicate (38 - 2) undef, defers := [] } : Act) = a0 at hz e0 e1 hd ⊢
  have hB : Below w0.heap.size w0 w0 := Below.refl _ _
  have hS := hB.size
  refine wp_seq ?_
  refine seq_startL (l := [0, 1, 2]) (by kernel_rfl) ?_
  refine seq_valD 2 rfl rfl rfl (run_boxC rfl e0) ?_
  have x2 := RowT.new w0 26 [.int .i64 a.n, .slice a.A a.rows.length a.cap]
  replace hB := hB.al (o := .cells ([.int .i64 a.n, .slice a.A a.rows.length a.cap] : List Value).toArray 26)
  change wpOps _ _ _ _ _ (w0.alloc (.cells ([.int .i64 a.n, .slice a.A a.rows.length a.cap] : List Value).toArray 26))
  generalize (w0.alloc (.cells ([.int .i64 a.n, .slice a.A a.rows.length a.cap] : List Value).toArray 26)) = w1 at x2 hB ⊢
  generalize hbq2 : w0.heap.size = b2 at x2 ⊢
  have hge2 : w0.heap.size ≤ b2 := by rw [← hbq2]; exact hS
  clear hbq2
  have hS := hB.size
  refine seq_valD 3 rfl rfl rfl (run_boxC rfl ((ev_ne (by decide)).trans e1)) ?_
  have nx2_3 : b2 ≠ w1.heap.size := Nat.ne_of_lt x2.lt
  have x3 := RowT.new w1 26 [.int .i64 b.n, .slice b.A b.rows.length b.cap]
  replace x2 := x2.alloc (.cells ([.int .i64 b.n, .slice b.A b.rows.length b.cap] : List Value).toArray 26)
  replace hB := hB.al (o := .cells ([.int .i64 b.n, .slice b.A b.rows.length b.cap] : List Value).toArray 26)
  change wpOps _ _ _ _ _ (w1.alloc (.cells ([.int .i64 b.n, .slice b.A b.rows.length b.cap] : List Value).toArray 26))
  generalize (w1.alloc (.cells ([.int .i64 b.n, .slice b.A b.rows.length b.cap] : List Value).toArray 26)) = w2 at x2 x3 hB ⊢
  generalize hbq3 : w1.heap.size = b3 at x3 nx2_3 ⊢
  have hge3 : w0.heap.size ≤ b3 := by rw [← hbq3]; exact hS
  clear hbq3
  have hS := hB.size
  refine seq_valD 4 rfl rfl rfl (run_allocR rfl rfl) ?_
  have nx2_4 : b2 ≠ w2.heap.size := Nat.ne_of_lt x2.lt
  have nx3_4 : b3 ≠ w2.heap.size := Nat.ne_of_lt x3.lt
  have x4 := RowT.new w2 26 [.int .i64 0, .slice none 0 0]
  replace x2 := x2.alloc (.cells ([.int .i64 0, .slice none 0 0] : List Value).toArray 26)
  replace x3 := x3.alloc (.cells ([.int .i64 0, .slice none 0 0] : List Value).toArray 26)
  replace hB := hB.al (o := .cells ([.int .i64 0, .slice none 0 0] : List Value).toArray 26)
  change wpOps _ _ _ _ _ (w2.alloc (.cells ([.int .i64 0, .slice none 0 0] : List Value).toArray 26))
  generalize (w2.alloc (.cells ([.int .i64 0, .slice none 0 0] : List Value).toArray 26)) = w3 at x2 x3 x4 hB ⊢
  generalize hbq4 : w2.heap.size = b4 at x4 nx2_4 nx3_4 ⊢
  have hge4 : w0.heap.size ≤ b4 := by rw [← hbq4]; exact hS
  clear hbq4
  have hS := hB.size
  refine seq_nil ?_
  refine seq_out ((((KeepM.refl 7 [2, 3, 4] a0).put (by decide)).put (by decide)).put (by decide)) fun a4 k4 tr => ?_
  have f2 := tr 2 (.pointer (some ⟨b2, 0, none⟩)) ((ev_ne (by decide)).trans ((ev_ne (by decide)).trans (ev_same (by first | (rw [hz]; decide) | (simp only [size_put, hz]; decide)))))
  have f3 := tr 3 (.pointer (some ⟨b3, 0, none⟩)) ((ev_ne (by decide)).trans (ev_same (by first | (rw [hz]; decide) | (simp only [size_put, hz]; decide))))
  have f4 := tr 4 (.pointer (some ⟨b4, 0, none⟩)) (ev_same (by first | (rw [hz]; decide) | (simp only [size_put, hz]; decide)))
  clear tr
  replace e0 := k4.ev e0 (by decide)
  replace e1 := k4.ev e1 (by decide)
  replace hz := k4.size.trans hz
  replace hd := k4.defers.trans hd
  have e2 := f2
  clear f2
  have e3 := f3
  clear f3
  have e4 := f4
  clear f4
  refine wp_seq ?_
  refine wp_seq ?_
  refine seq_startL (l := [0, 1, 2, 3, 4]) (by kernel_rfl) ?_
  refine seq_valD 7 (v := (.agg #[.int .i64 a.n, .slice a.A a.rows.length a.cap])) rfl rfl rfl (run_ldR rfl e2 (x2.cell 0) (x2.cell 1)) ?_
  refine seq_valD 8 (v := (.agg #[.int .i64 b.n, .slice b.A b.rows.length b.cap])) rfl rfl rfl (run_ldR rfl ((ev_ne (by decide)).trans e3) (x3.cell 0) (x3.cell 1)) ?_
  refine seq_valD 9 rfl rfl rfl (run_rels2 (a1 := a) (a2 := b) rfl (((ev_ne (by decide)).trans (ev_same (by first | (rw [hz]; decide) | (simp only [size_put, hz]; decide)))).trans hav.symm) ((ev_same (by first | (rw [hz]; decide) | (simp only [size_put, hz]; decide))).trans hbv.symm)) ?_
  have nx2_9 : b2 ≠ w3.heap.size := Nat.ne_of_lt x2.lt
  have nx3_9 : b3 ≠ w3.heap.size := Nat.ne_of_lt x3.lt
  have nx4_9 : b4 ≠ w3.heap.size := Nat.ne_of_lt x4.lt
  have x9 := RowT.new w3 26 ([a, b].flatMap RA.cells)
  replace x2 := x2.alloc (.cells (([a, b].flatMap RA.cells) : List Value).toArray 26)
  replace x3 := x3.alloc (.cells (([a, b].flatMap RA.cells) : List Value).toArray 26)
  replace x4 := x4.alloc (.cells (([a, b].flatMap RA.cells) : List Value).toArray 26)
  replace hB := hB.al (o := .cells (([a, b].flatMap RA.cells) : List Value).toArray 26)
  change wpOps _ _ _ _ _ (w3.alloc (.cells (([a, b].flatMap RA.cells) : List Value).toArray 26))
  generalize (w3.alloc (.cells (([a, b].flatMap RA.cells) : List Value).toArray 26)) = w5 at x2 x3 x4 x9 hB ⊢
  generalize hbq9 : w3.heap.size = b9 at x9 nx2_9 nx3_9 nx4_9 ⊢
  have hge9 : w0.heap.size ≤ b9 := by rw [← hbq9]; exact hS
  clear hbq9
  have hS := hB.size
  refine seq_callD 10 rfl rfl rfl en_alike rfl (args_one (ev_same (by first | (rw [hz]; decide) | (simp only [size_put, hz]; decide)))) ((ralike2 w5 hal x9 (ha.on hB) (hb.on hB)).mono ?_)
  rintro e w6 ⟨rfl, hb6⟩
  refine ⟨_, rfl, ?_⟩
  replace x2 := x2.below hb6 x2.lt
  replace x3 := x3.below hb6 x3.lt
  replace x4 := x4.below hb6 x4.lt
  replace x9 := x9.below hb6 x9.lt
  replace hB := Below.next hB hb6
  replace hS := hB.size
  refine seq_valD 11 (v := (.bool true)) rfl rfl rfl (run_not rfl (ev_same (by first | (rw [hz]; decide) | (simp only [size_put, hz]; decide)))) ?_
  refine seq_nil ?_
  refine seq_out ((((((KeepM.refl 7 [] a4).put (by decide)).put (by decide)).put (by decide)).put (by decide)).put (by decide)) fun a7 k7 tr => ?_
  have f11 := tr 11 (.bool true) (ev_same (by first | (rw [hz]; decide) | (simp only [size_put, hz]; decide)))
  clear tr
  replace e2 := k7.ev e2 (by decide)
  replace e3 := k7.ev e3 (by decide)
  replace e4 := k7.ev e4 (by decide)
  replace hz := k7.size.trans hz
  replace hd := k7.defers.trans hd
  have e11 := f11
  clear f11
  clear x9
  refine wp_cond_true e11 ?_
  refine wp_seq ?_
  refine seq_startL (l := [0, 1]) (by kernel_rfl) ?_
  refine seq_valD 12 (v := (.agg #[.int .i64 0, .slice none 0 0])) rfl rfl rfl (run_rel0 rfl) ?_
  refine seq_skipD rfl rfl rfl (run_stR rfl ((ev_ne (by decide)).trans e4) (ev_same (by first | (rw [hz]; decide) | (simp only [size_put, hz]; decide))) x4) ?_
  have y4 : RowT ((w6.setCell ⟨b4, 0, none⟩ (.int .i64 0)).setCell ⟨b4, 1, none⟩ (.slice none 0 0)) b4 26 [.int .i64 0, .slice none 0 0] := (x4.set_ 0 _).set_ 1 _
  replace x2 := (x2.far (p := ⟨b4, 0, none⟩) nx2_4 (.int .i64 0)).far (p := ⟨b4, 1, none⟩) nx2_4 (.slice none 0 0)
  replace x3 := (x3.far (p := ⟨b4, 0, none⟩) nx3_4 (.int .i64 0)).far (p := ⟨b4, 1, none⟩) nx3_4 (.slice none 0 0)
  replace hB := (hB.setCell (p := ⟨b4, 0, none⟩) hge4 (.int .i64 0)).setCell (p := ⟨b4, 1, none⟩) hge4 (.slice none 0 0)
  have x4 := y4
  clear y4
  generalize ((w6.setCell ⟨b4, 0, none⟩ (.int .i64 0)).setCell ⟨b4, 1, none⟩ (.slice none 0 0)) = w8 at x2 x3 x4 hB ⊢
  replace hS := hB.size
  refine seq_nil ?_
  refine seq_out ((KeepM.refl 7 [] a7).put (by decide)) fun a9 k9 tr => ?_
  clear tr
  replace e2 := k9.ev e2 (by decide)
  replace e3 := k9.ev e3 (by decide)
  replace e4 := k9.ev e4 (by decide)
  replace hz := k9.size.trans hz
  replace hd := k9.defers.trans hd
  refine wp_ret ?_
  exact post_cell rfl hd e4 x4 (fin_Z hB)
theorem C_rLess : CallRRR 39 Pless := fun a b w _ ha hb _ _ => by
  unfold Pless
  cases hal : Palike [a.pr, b.pr] with
  | false => exact rLess_bad a b w ha hb hal
  | true =>
    obtain ⟨h1, h2, _⟩ := ok_rows (Palike_ok hal a.pr (by simp)).1
    obtain ⟨k1, k2, _⟩ := ok_rows (Palike_ok hal b.pr (by simp)).1
    have hlt := (alike_lt hal b.pr (by simp)).1
    have := rLess_ok a b a.rows.length w ha hb hal h1 (by rw [show b.n = b.pr.n from rfl, k1, hlt]; rfl) rfl hlt h2
    rw [if_pos rfl, show a.pr.n = ((a.rows.length : Nat) : Int) from h1]
    exact this
end Go.Proofs.YtigdecmfieaacaaDoor
namespace Go.Proofs.YtigdecmfieaacaaDoor
open Go Go.RowKit

def onlyB (rows : List Nat) (f t i : Nat) : Nat := if f.testBit i = true then rows.getD i 0 &&& t else 0
theorem onlyB_u {rows : List Nat} {f t : Nat} (h : ∀ x ∈ rows, x < 18446744073709551616) (N : Nat) : ∀ x ∈ (List.range N).map (onlyB rows f t), x < 18446744073709551616 := by
  intro x hx
  obtain ⟨i, _, rfl⟩ := List.mem_map.1 hx
  unfold onlyB
  split
  · exact Nat.lt_of_le_of_lt Nat.and_le_left (getD_u h i)
  · decide
theorem midF_idle {f : Nat → Nat} {k : Nat} (h : f k = 0) : midF f (k + 1) = midF f k := by
  funext i
  rw [midF_succ]
  split
  · rename_i e; subst e; unfold midF; simp [h]
  · rfl
theorem bit_eq {m x : Nat} {b : Bool} (h : m.testBit x = b) : (((m / 2 ^ x % 2 : Nat) : Int) == 1) = b := by
  rw [Nat.testBit_eq_decide_div_mod_eq] at h
  rw [← h]
  by_cases e : m / 2 ^ x % 2 = 1
  · simp [e]
  · rw [decide_eq_false e]
    have : ¬ (((m / 2 ^ x % 2 : Nat) : Int) = 1) := by omega
    simpa using this
def Ponly (r : PR) (f t : Nat) : PR := if r.ok = true then ⟨r.n, (List.range r.rows.length).map (onlyB r.rows f t)⟩ else PR.zero
set_option maxRecDepth 100000 in
set_option maxHeartbeats 4000000 in
theorem rOnly_ok (r : RA) (f t N : Nat) (w0 : World) (hT : Tab w0) (hr : r.good w0) (hsr : Short r.pr) (ht : t < 18446744073709551616) (ho : r.ok = true) (hnr : r.n = (N : Nat)) (hlr : r.rows.length = N) (h64 : N ≤ 64) :
    Calls Tryd.prog 46 #[r.val, .int .u64 ((f : Nat) : Int), .int .u64 ((t : Nat) : Int)] w0 (RetR w0 ⟨((N : Nat) : Int), (List.range N).map (onlyB r.rows f t)⟩) := by
  have hrv : r.val = (.agg #[.int .i64 ((N : Nat) : Int), .slice r.A N r.cap]) := by unfold RA.val; rw [hnr, hlr]
  rw [hrv]
  refine calls_of_wp Tryd.func46 rfl ?_
  obtain ⟨hz, e0, e1, e2⟩ := start_act3 40 ((.agg #[.int .i64 ((N : Nat) : Int), .slice r.A N r.cap])) ((.int .u64 ((f : Nat) : Int))) ((.int .u64 ((t : Nat) : Int))) (by decide)
  have hd : ({ tmps := #[(.agg #[.int .i64 ((N : Nat) : Int), .slice r.A N r.cap]), (.int .u64 ((f : Nat) : Int)), (.int .u64 ((t : Nat) : Int))] ++ Array.replicate (40 - 3) undef, defers := [] } : Act).defers = [] := rfl
  rw [show Tryd.f46.ntmps - (#[(.agg #[.int .i64 ((N : Nat) : Int), .slice r.A N r.cap]), (.int .u64 ((f : Nat) : Int)), (.int .u64 ((t : Nat) : Int))] : Array Value).size = 40 - 3 from rfl]
  generalize ({ tmps := #[(.agg #[.int .i64 ((N : Nat) : Int), .slice r.A N r.cap]), (.int .u64 ((f : Nat) : Int)), (.int .u64 ((t : Nat) : Int))] ++ Array.replicate (40 - 3) undef, defers := [] } : Act) = a0 at hz e0 e1 e2 hd ⊢
  have hB : Below w0.heap.size w0 w0 := Below.refl _ _
  have hS := hB.size
  refine wp_seq ?_
  refine seq_startL (l := [0, 1]) (by kernel_rfl) ?_
  refine seq_valD 3 rfl rfl rfl (run_boxC rfl e0) ?_
  have x3 := RowT.new w0 26 [.int .i64 ((N : Nat) : Int), .slice r.A N r.cap]
  replace hB := hB.al (o := .cells ([.int .i64 ((N : Nat) : Int), .slice r.A N r.cap] : List Value).toArray 26)
  change wpOps _ _ _ _ _ (w0.alloc (.cells ([.int .i64 ((N : Nat) : Int), .slice r.A N r.cap] : List Value).toArray 26))
  have hge3 : w0.heap.size ≤ w0.heap.size := hS
  generalize (w0.alloc (.cells ([.int .i64 ((N : Nat) : Int), .slice r.A N r.cap] : List Value).toArray 26)) = w1 at x3 hB ⊢
  generalize w0.heap.size = b3 at x3 hge3 ⊢
  have hS := hB.size
  refine seq_valD 6 rfl rfl rfl (run_allocR rfl rfl) ?_
  have nx3_6 : b3 ≠ w1.heap.size := Nat.ne_of_lt x3.lt
  have x6 := RowT.new w1 26 [.int .i64 0, .slice none 0 0]
  replace x3 := x3.alloc (.cells ([.int .i64 0, .slice none 0 0] : List Value).toArray 26)
  replace hB := hB.al (o := .cells ([.int .i64 0, .slice none 0 0] : List Value).toArray 26)
  change wpOps _ _ _ _ _ (w1.alloc (.cells ([.int .i64 0, .slice none 0 0] : List Value).toArray 26))
  have hge6 : w0.heap.size ≤ w1.heap.size := hS
  generalize (w1.alloc (.cells ([.int .i64 0, .slice none 0 0] : List Value).toArray 26)) = w2 at x3 x6 hB ⊢
  generalize w1.heap.size = b6 at x6 hge6 nx3_6 ⊢
  have hS := hB.size
  refine seq_nil ?_
  refine seq_out (((KeepM.refl 9 [3, 6] a0).put (by decide)).put (by decide)) fun a3 k3 tr => ?_
  have f3 := tr 3 (.pointer (some ⟨b3, 0, none⟩)) ((ev_ne (by decide)).trans (ev_same (by first | (rw [hz]; decide) | (simp only [size_put, hz]; decide))))
  have f6 := tr 6 (.pointer (some ⟨b6, 0, none⟩)) (ev_same (by first | (rw [hz]; decide) | (simp only [size_put, hz]; decide)))
  clear tr
  replace e0 := k3.ev e0 (by decide)
  replace e1 := k3.ev e1 (by decide)
  replace e2 := k3.ev e2 (by decide)
  replace hz := k3.size.trans hz
  replace hd := k3.defers.trans hd
  have e3 := f3
  clear f3
  have e6 := f6
  clear f6
  refine wp_seq ?_
  refine wp_seq ?_
  refine seq_startL (l := [0, 1, 2]) (by kernel_rfl) ?_
  refine seq_valD 9 rfl rfl rfl (run_ldR rfl e3 (x3.cell 0) (x3.cell 1)) ?_
  refine seq_callD 10 rfl rfl rfl en_rCheck rfl (args_one (ev_same (by first | (rw [hz]; decide) | (simp only [size_put, hz]; decide)))) ((hrv ▸ C_rCheck r w2 (hT.on hB) (hr.on hB) hsr).mono ?_)
  rintro e w4 ⟨rfl, hb4⟩
  refine ⟨_, rfl, ?_⟩
  replace x3 := x3.below hb4 x3.lt
  replace x6 := x6.below hb4 x6.lt
  replace hB := Below.next hB hb4
  replace hS := hB.size
  refine seq_valD 11 rfl rfl rfl ((run_neE rfl (ev_same (by first | (rw [hz]; decide) | (simp only [size_put, hz]; decide))) rfl).trans (okB (c := false) (by rw [chk_yes ho]; rfl))) ?_
  refine seq_nil ?_
  refine seq_out ((((KeepM.refl 9 [] a3).put (by decide)).put (by decide)).put (by decide)) fun a5 k5 tr => ?_
  have f11 := tr 11 (.bool false) (ev_same (by first | (rw [hz]; decide) | (simp only [size_put, hz]; decide)))
  clear tr
  replace e1 := k5.ev e1 (by decide)
  replace e2 := k5.ev e2 (by decide)
  replace e3 := k5.ev e3 (by decide)
  replace e6 := k5.ev e6 (by decide)
  replace hz := k5.size.trans hz
  replace hd := k5.defers.trans hd
  have e11 := f11
  clear f11
  refine wp_cond_false e11 ?_
  refine wp_skip ?_
  refine wp_seq ?_
  refine seq_startL (l := [0, 1, 2, 3, 4]) (by kernel_rfl) ?_
  refine seq_valD 13 rfl rfl rfl (run_fp0 rfl e3) ?_
  refine seq_valD 14 rfl rfl rfl (run_ldI rfl (ev_same (by first | (rw [hz]; decide) | (simp only [size_put, hz]; decide))) (x3.cell 0)) ?_
  refine seq_callD 15 rfl rfl rfl en_rNone rfl (args_one (ev_same (by first | (rw [hz]; decide) | (simp only [size_put, hz]; decide)))) ((rnone_ok N w4 h64).mono ?_)
  rintro e w6 ⟨v6, rfl, ⟨g, rfl, hgg, y⟩, hb6⟩
  refine ⟨_, rfl, ?_⟩
  replace hgg : w0.heap.size ≤ g := Nat.le_trans hS hgg
  replace x3 := x3.below hb6 x3.lt
  replace x6 := x6.below hb6 x6.lt
  replace hB := Below.next hB hb6
  replace hS := hB.size
  refine seq_valD 7 rfl rfl rfl (run_allocR rfl rfl) ?_
  have nx3_7 : b3 ≠ w6.heap.size := Nat.ne_of_lt x3.lt
  have nx6_7 : b6 ≠ w6.heap.size := Nat.ne_of_lt x6.lt
  have x7 := RowT.new w6 26 [.int .i64 0, .slice none 0 0]
  replace x3 := x3.alloc (.cells ([.int .i64 0, .slice none 0 0] : List Value).toArray 26)
  replace x6 := x6.alloc (.cells ([.int .i64 0, .slice none 0 0] : List Value).toArray 26)
  replace y := y.alloc (.cells ([.int .i64 0, .slice none 0 0] : List Value).toArray 26)
  replace hB := hB.al (o := .cells ([.int .i64 0, .slice none 0 0] : List Value).toArray 26)
  change wpOps _ _ _ _ _ (w6.alloc (.cells ([.int .i64 0, .slice none 0 0] : List Value).toArray 26))
  have hge7 : w0.heap.size ≤ w6.heap.size := hS
  generalize (w6.alloc (.cells ([.int .i64 0, .slice none 0 0] : List Value).toArray 26)) = w7 at x3 x6 y x7 hB ⊢
  generalize w6.heap.size = b7 at x7 hge7 nx3_7 nx6_7 ⊢
  have hS := hB.size
  refine seq_skipD rfl rfl rfl (run_stR rfl (ev_same (by first | (rw [hz]; decide) | (simp only [size_put, hz]; decide))) ((ev_ne (by decide)).trans (ev_same (by first | (rw [hz]; decide) | (simp only [size_put, hz]; decide)))) x7) ?_
  have y7 : RowT ((w7.setCell ⟨b7, 0, none⟩ (.int .i64 ((N : Nat) : Int))).setCell ⟨b7, 1, none⟩ (.slice (some ⟨g, 0, none⟩) N N)) b7 26 [.int .i64 ((N : Nat) : Int), .slice (some ⟨g, 0, none⟩) N N] := (x7.set_ 0 _).set_ 1 _
  replace x3 := (x3.far (p := ⟨b7, 0, none⟩) nx3_7 (.int .i64 ((N : Nat) : Int))).far (p := ⟨b7, 1, none⟩) nx3_7 (.slice (some ⟨g, 0, none⟩) N N)
  replace x6 := (x6.far (p := ⟨b7, 0, none⟩) nx6_7 (.int .i64 ((N : Nat) : Int))).far (p := ⟨b7, 1, none⟩) nx6_7 (.slice (some ⟨g, 0, none⟩) N N)
  replace y := (y.keep (i := 0) x7 (by decide) (.int .i64 ((N : Nat) : Int))).keep (i := 1) (x7.set_ 0 (.int .i64 ((N : Nat) : Int))) (by decide) (.slice (some ⟨g, 0, none⟩) N N)
  replace hB := (hB.setCell (p := ⟨b7, 0, none⟩) hge7 (.int .i64 ((N : Nat) : Int))).setCell (p := ⟨b7, 1, none⟩) hge7 (.slice (some ⟨g, 0, none⟩) N N)
  have x7 := y7
  clear y7
  generalize ((w7.setCell ⟨b7, 0, none⟩ (.int .i64 ((N : Nat) : Int))).setCell ⟨b7, 1, none⟩ (.slice (some ⟨g, 0, none⟩) N N)) = w8 at x3 x6 y x7 hB ⊢
  replace hS := hB.size
  refine seq_nil ?_
  refine seq_out (((((KeepM.refl 9 [7] a5).put (by decide)).put (by decide)).put (by decide)).put (by decide)) fun a9 k9 tr => ?_
  have f7 := tr 7 (.pointer (some ⟨b7, 0, none⟩)) (ev_same (by first | (rw [hz]; decide) | (simp only [size_put, hz]; decide)))
  clear tr
  replace e1 := k9.ev e1 (by decide)
  replace e2 := k9.ev e2 (by decide)
  replace e3 := k9.ev e3 (by decide)
  replace e6 := k9.ev e6 (by decide)
  replace hz := k9.size.trans hz
  replace hd := k9.defers.trans hd
  have e7 := f7
  clear f7
  have y0 : RowT w8 g 37 (((List.range N).map (midF (onlyB r.rows f t) 0)).map U) := by rw [midF_zero]; exact y
  clear y
  have y := y0
  clear y0
  refine wp_seq ?_
  refine wp_seq ?_
  refine seq_startL (l := [0]) (by kernel_rfl) ?_
  refine seq_assign 8 (v := (.int .i64 0)) rfl rfl rfl rfl rfl ?_
  refine seq_nil ?_
  refine seq_out ((KeepM.refl 9 [8] a9).put (by decide)) fun a10 k10 tr => ?_
  have f8 := tr 8 (.int .i64 0) (ev_same (by first | (rw [hz]; decide) | (simp only [size_put, hz]; decide)))
  clear tr
  replace e1 := k10.ev e1 (by decide)
  replace e2 := k10.ev e2 (by decide)
  replace e3 := k10.ev e3 (by decide)
  replace e6 := k10.ev e6 (by decide)
  replace e7 := k10.ev e7 (by decide)
  replace hz := k10.size.trans hz
  replace hd := k10.defers.trans hd
  have e8 := f8
  clear f8
  refine wp_block ?_
  refine wp_loop (fun aq wq => ∃ (k : Nat), (k ≤ N) ∧ KeepM 9 [8] a10 aq ∧ aq.eval (.tmp 8) = (.int .i64 ((k : Nat) : Int)) ∧ RowT wq b3 26 [.int .i64 ((N : Nat) : Int), .slice r.A N r.cap] ∧ RowT wq b6 26 [.int .i64 0, .slice none 0 0] ∧ RowT wq g 37 (((List.range N).map (midF (onlyB r.rows f t) k)).map U) ∧ RowT wq b7 26 [.int .i64 ((N : Nat) : Int), .slice (some ⟨g, 0, none⟩) N N] ∧ Below w0.heap.size w0 wq) (fun aq _ => N - (intOf (aq.eval (.tmp 8))).toNat) ⟨0, Nat.zero_le _, KeepM.refl _ _ _, e8, x3, x6, y, x7, hB⟩ ?_
  rintro a11 w11 ⟨k, hk0, kk0, g8, qx3, qx6, qy, qx7, qB⟩
  replace e1 := kk0.ev e1 (by decide)
  replace e2 := kk0.ev e2 (by decide)
  replace e3 := kk0.ev e3 (by decide)
  replace e6 := kk0.ev e6 (by decide)
  replace e7 := kk0.ev e7 (by decide)
  replace hz := kk0.size.trans hz
  replace hd := kk0.defers.trans hd
  clear e8 x3 x6 y x7 hB hS
  have e8 := g8
  have x3 := qx3
  have x6 := qx6
  have y := qy
  have x7 := qx7
  have hB := qB
  have hS := hB.size
  clear qx3 qx6 qy qx7 qB
  have e8s := e8
  refine wp_seq ?_
  refine wp_seq ?_
  refine seq_startL (l := [0, 1, 2, 3]) (by kernel_rfl) ?_
  refine seq_move 16 (v := (.int .i64 ((k : Nat) : Int))) rfl rfl rfl rfl e8 ?_
  refine seq_valD 17 rfl rfl rfl (run_fp0 rfl ((ev_ne (by decide)).trans e3)) ?_
  refine seq_valD 18 rfl rfl rfl (run_ldI rfl (ev_same (by first | (rw [hz]; decide) | (simp only [size_put, hz]; decide))) (x3.cell 0)) ?_
  refine seq_valD 19 rfl rfl rfl (run_ltI rfl ((ev_ne (by decide)).trans ((ev_ne (by decide)).trans (ev_same (by first | (rw [hz]; decide) | (simp only [size_put, hz]; decide))))) (ev_same (by first | (rw [hz]; decide) | (simp only [size_put, hz]; decide)))) ?_
  refine seq_nil ?_
  refine seq_out (((((KeepM.refl 9 [] a11).put (by decide)).put (by decide)).put (by decide)).put (by decide)) fun a12 k12 tr => ?_
  have f19 := tr 19 (.bool (decide (((k : Nat) : Int) < ((N : Nat) : Int)))) (ev_same (by first | (rw [hz]; decide) | (simp only [size_put, hz]; decide)))
  clear tr
  replace e1 := k12.ev e1 (by decide)
  replace e2 := k12.ev e2 (by decide)
  replace e3 := k12.ev e3 (by decide)
  replace e6 := k12.ev e6 (by decide)
  replace e7 := k12.ev e7 (by decide)
  replace e8 := k12.ev e8 (by decide)
  replace hz := k12.size.trans hz
  replace hd := k12.defers.trans hd
  replace kk0 := kk0.trans (k12.mono (ys := [8]) (by decide))
  have e19 := f19
  clear f19
  by_cases hltk : k < N
  · rw [decide_eq_true (by omega)] at e19
    refine wp_cond_true e19 ?_
    refine wp_skip ?_
    refine wp_seq ?_
    refine wp_block ?_
    refine wp_seq ?_
    obtain ⟨ad, hA, hal1, hcA, huA⟩ := good_row (hr.on hB) (k := k) (by omega)
    cases hbt : f.testBit k with
    | false =>
      refine seq_startL (l := [0, 1, 2, 3, 4, 5]) (by kernel_rfl) ?_
      refine seq_move 22 (v := (.int .u64 ((f : Nat) : Int))) rfl rfl rfl rfl e1 ?_
      refine seq_move 23 (v := (.int .i64 ((k : Nat) : Int))) rfl rfl rfl rfl ((ev_ne (by decide)).trans e8) ?_
      refine seq_valD 24 rfl rfl rfl (run_cvU rfl (ev_same (by first | (rw [hz]; decide) | (simp only [size_put, hz]; decide))) (by omega)) ?_
      refine seq_valD 25 rfl rfl rfl (run_shr rfl ((ev_ne (by decide)).trans ((ev_ne (by decide)).trans (ev_same (by first | (rw [hz]; decide) | (simp only [size_put, hz]; decide))))) (ev_same (by first | (rw [hz]; decide) | (simp only [size_put, hz]; decide))) (by omega)) ?_
      refine seq_valD 26 rfl rfl rfl (run_rem2 rfl (ev_same (by first | (rw [hz]; decide) | (simp only [size_put, hz]; decide))) rfl) ?_
      refine seq_valD 27 rfl rfl rfl ((run_eqU rfl (ev_same (by first | (rw [hz]; decide) | (simp only [size_put, hz]; decide))) rfl).trans (okB (c := false) (bit_eq hbt))) ?_
      refine seq_nil ?_
      refine seq_out (((((((KeepM.refl 9 [] a12).put (by decide)).put (by decide)).put (by decide)).put (by decide)).put (by decide)).put (by decide)) fun a13 k13 tr => ?_
      have f27 := tr 27 (.bool false) (ev_same (by first | (rw [hz]; decide) | (simp only [size_put, hz]; decide)))
      clear tr
      replace e1 := k13.ev e1 (by decide)
      replace e2 := k13.ev e2 (by decide)
      replace e3 := k13.ev e3 (by decide)
      replace e6 := k13.ev e6 (by decide)
      replace e7 := k13.ev e7 (by decide)
      replace e8 := k13.ev e8 (by decide)
      replace hz := k13.size.trans hz
      replace hd := k13.defers.trans hd
      replace kk0 := kk0.trans (k13.mono (ys := [8]) (by decide))
      have e27 := f27
      clear f27
      refine wp_cond_false e27 ?_
      refine wp_skip ?_
      rw [← midF_idle (f := onlyB r.rows f t) (k := k) (by unfold onlyB; rw [hbt]; rfl)] at y
      refine seq_startL (l := [0, 1, 2]) (by kernel_rfl) ?_
      refine seq_move 20 (v := (.int .i64 ((k : Nat) : Int))) rfl rfl rfl rfl e8 ?_
      refine seq_valD 21 rfl rfl rfl (run_incI rfl (ev_same (by first | (rw [hz]; decide) | (simp only [size_put, hz]; decide))) rfl (by omega)) ?_
      refine seq_assign 8 (v := (.int .i64 ((k + 1 : Nat) : Int))) rfl rfl rfl rfl (ev_same (by first | (rw [hz]; decide) | (simp only [size_put, hz]; decide))) ?_
      refine seq_nil ?_
      refine seq_out ((((KeepM.refl 9 [8] a13).put (by decide)).put (by decide)).put (by decide)) fun a14 k14 tr => ?_
      have f8 := tr 8 (.int .i64 ((k + 1 : Nat) : Int)) (ev_same (by first | (rw [hz]; decide) | (simp only [size_put, hz]; decide)))
      clear tr
      replace e1 := k14.ev e1 (by decide)
      replace e2 := k14.ev e2 (by decide)
      replace e3 := k14.ev e3 (by decide)
      replace e6 := k14.ev e6 (by decide)
      replace e7 := k14.ev e7 (by decide)
      replace hz := k14.size.trans hz
      replace hd := k14.defers.trans hd
      replace kk0 := kk0.trans (k14.mono (ys := [8]) (by decide))
      have e8 := f8
      clear f8
      refine ⟨⟨k + 1, by omega, kk0, e8, x3, x6, y, x7, hB⟩, ?_⟩
      rw [e8, e8s]; simp [intOf]; omega
    | true =>
      refine seq_startL (l := [0, 1, 2, 3, 4, 5]) (by kernel_rfl) ?_
      refine seq_move 22 (v := (.int .u64 ((f : Nat) : Int))) rfl rfl rfl rfl e1 ?_
      refine seq_move 23 (v := (.int .i64 ((k : Nat) : Int))) rfl rfl rfl rfl ((ev_ne (by decide)).trans e8) ?_
      refine seq_valD 24 rfl rfl rfl (run_cvU rfl (ev_same (by first | (rw [hz]; decide) | (simp only [size_put, hz]; decide))) (by omega)) ?_
      refine seq_valD 25 rfl rfl rfl (run_shr rfl ((ev_ne (by decide)).trans ((ev_ne (by decide)).trans (ev_same (by first | (rw [hz]; decide) | (simp only [size_put, hz]; decide))))) (ev_same (by first | (rw [hz]; decide) | (simp only [size_put, hz]; decide))) (by omega)) ?_
      refine seq_valD 26 rfl rfl rfl (run_rem2 rfl (ev_same (by first | (rw [hz]; decide) | (simp only [size_put, hz]; decide))) rfl) ?_
      refine seq_valD 27 rfl rfl rfl ((run_eqU rfl (ev_same (by first | (rw [hz]; decide) | (simp only [size_put, hz]; decide))) rfl).trans (okB (c := true) (bit_eq hbt))) ?_
      refine seq_nil ?_
      refine seq_out (((((((KeepM.refl 9 [] a12).put (by decide)).put (by decide)).put (by decide)).put (by decide)).put (by decide)).put (by decide)) fun a15 k15 tr => ?_
      have f27 := tr 27 (.bool true) (ev_same (by first | (rw [hz]; decide) | (simp only [size_put, hz]; decide)))
      clear tr
      replace e1 := k15.ev e1 (by decide)
      replace e2 := k15.ev e2 (by decide)
      replace e3 := k15.ev e3 (by decide)
      replace e6 := k15.ev e6 (by decide)
      replace e7 := k15.ev e7 (by decide)
      replace e8 := k15.ev e8 (by decide)
      replace hz := k15.size.trans hz
      replace hd := k15.defers.trans hd
      replace kk0 := kk0.trans (k15.mono (ys := [8]) (by decide))
      have e27 := f27
      clear f27
      refine wp_cond_true e27 ?_
      have hlast : lastOk (regOps Tryd.f46 8) 11 = true := by kernel_rfl
      refine region_w (n := 12) [some (.pointer (some ⟨b7, 1, none⟩)), some (.slice (some ⟨g, 0, none⟩) N N), some (.int .i64 ((k : Nat) : Int)), some (.pointer (some ⟨b3, 1, none⟩)), some (.slice (some ad) N r.cap), some (.int .i64 ((k : Nat) : Int)), some (.pointer (some (ad.add k))), some (.int .u64 (((r.rows.getD k 0) : Nat) : Int)), some (.int .u64 ((t : Nat) : Int)), some (.int .u64 ((((r.rows.getD k 0) &&& t) : Nat) : Int)), some (.pointer (some ((⟨g, 0, none⟩ : Addr).add k))), none] 11 w11 (w11.drew.setCell ((⟨g, 0, none⟩ : Addr).add k) (.int .u64 ((((r.rows.getD k 0) &&& t) : Nat) : Int))) (by kernel_rfl) (by rw [hz]; kernel_rfl) (by kernel_rfl) (by kernel_rfl) (by kernel_rfl) (by kernel_rfl) ?_ fun L a16 w16 hL st => ?_
      · refine ⟨⟨⟨⟨⟨⟨⟨⟨⟨⟨⟨⟨trivial, ?_⟩, ?_⟩, ?_⟩, ?_⟩, ?_⟩, ?_⟩, ?_⟩, ?_⟩, ?_⟩, ?_⟩, ?_⟩, ?_⟩
        · intro o a w L ho hL haft st; obtain rfl := Option.some.inj ho; exact payW st hlast hL (by decide) (want_none rfl) (run_fp1 rfl (st.outV (by kernel_rfl) e7)) rfl
        · intro o a w L ho hL haft st; obtain rfl := Option.some.inj ho; exact payW st hlast hL (by decide) (want_none rfl) (run_ldS rfl (st.argV (j := 0) (aft_of haft (by kernel_rfl)) rfl rfl) (x7.cell 1)) rfl
        · intro o a w L ho hL haft st; obtain rfl := Option.some.inj ho; exact payW_move st hlast hL (by decide) (want_none rfl) rfl (st.outV (by kernel_rfl) e8) rfl
        · intro o a w L ho hL haft st; obtain rfl := Option.some.inj ho; exact payW st hlast hL (by decide) (want_none rfl) (run_fp1 rfl (st.outV (by kernel_rfl) e3)) rfl
        · intro o a w L ho hL haft st; obtain rfl := Option.some.inj ho; exact payW st hlast hL (by decide) (want_none rfl) (run_ldS rfl (st.argV (j := 3) (aft_of haft (by kernel_rfl)) rfl rfl) (by rw [← hA]; exact x3.cell 1)) rfl
        · intro o a w L ho hL haft st; obtain rfl := Option.some.inj ho; exact payW_move st hlast hL (by decide) (want_none rfl) rfl (st.outV (by kernel_rfl) e8) rfl
        · intro o a w L ho hL haft st; obtain rfl := Option.some.inj ho; exact payW st hlast hL (by decide) (want_none rfl) (run_ixU (k := k) rfl (st.argV (j := 4) (aft_of haft (by kernel_rfl)) rfl rfl) (st.argV (j := 5) (aft_of haft (by kernel_rfl)) rfl rfl) hltk) rfl
        · intro o a w L ho hL haft st; obtain rfl := Option.some.inj ho; exact payW st hlast hL (by decide) (want_none rfl) (run_ldU rfl (st.argV (j := 6) (aft_of haft (by kernel_rfl)) rfl rfl) hcA) rfl
        · intro o a w L ho hL haft st; obtain rfl := Option.some.inj ho; exact payW_move st hlast hL (by decide) (want_none rfl) rfl (st.outV (by kernel_rfl) e2) rfl
        · intro o a w L ho hL haft st; obtain rfl := Option.some.inj ho; exact payW st hlast hL (by decide) (want_none rfl) (run_andU rfl (st.argV (j := 7) (aft_of haft (by kernel_rfl)) rfl rfl) (st.argV (j := 8) (aft_of haft (by kernel_rfl)) rfl rfl) huA ht) rfl
        · intro o a w L ho hL haft st; obtain rfl := Option.some.inj ho; exact payW st hlast hL (by decide) (want_none rfl) (run_ixU (k := k) rfl (st.argV (j := 1) (aft_of haft (by kernel_rfl)) rfl rfl) (st.argV (j := 2) (aft_of haft (by kernel_rfl)) rfl rfl) hltk) rfl
        · intro o a w L ho hL haft st; obtain rfl := Option.some.inj ho; exact storeW st hlast hL (want_none rfl) (run_stU rfl (st.argV (j := 10) (aft_of haft (by kernel_rfl)) rfl rfl) (st.argV (j := 9) (aft_of haft (by kernel_rfl)) rfl rfl) (y.addc (row_get hltk)) y.addf) rfl
      clear hlast
      obtain rfl := st.end2 hL (by omega)
      have k16 : KeepM 9 [] a15 a16 := st.keepM (by kernel_rfl)
      clear st hL L
      replace e1 := k16.ev e1 (by decide)
      replace e2 := k16.ev e2 (by decide)
      replace e3 := k16.ev e3 (by decide)
      replace e6 := k16.ev e6 (by decide)
      replace e7 := k16.ev e7 (by decide)
      replace e8 := k16.ev e8 (by decide)
      replace hz := k16.size.trans hz
      replace hd := k16.defers.trans hd
      replace kk0 := kk0.trans (k16.mono (ys := [8]) (by decide))
      rw [add0]
      replace x3 := x3.drew.keep (i := k) y.drew (by decide) (.int .u64 ((((r.rows.getD k 0) &&& t) : Nat) : Int))
      replace x6 := x6.drew.keep (i := k) y.drew (by decide) (.int .u64 ((((r.rows.getD k 0) &&& t) : Nat) : Int))
      replace x7 := x7.drew.keep (i := k) y.drew (by decide) (.int .u64 ((((r.rows.getD k 0) &&& t) : Nat) : Int))
      replace y := row_set (F' := midF (onlyB r.rows f t) (k + 1)) y.drew (fun i => (midF_succ _ k i).trans (by rw [show onlyB r.rows f t k = r.rows.getD k 0 &&& t by unfold onlyB; rw [hbt]; rfl]))
      replace hB := hB.drew.setCell (p := ⟨g, k, none⟩) hgg (.int .u64 ((((r.rows.getD k 0) &&& t) : Nat) : Int))
      generalize (w11.drew.setCell ⟨g, k, none⟩ (.int .u64 ((((r.rows.getD k 0) &&& t) : Nat) : Int))) = w17 at x3 x6 y x7 hB ⊢
      replace hS := hB.size
      refine seq_startL (l := [0, 1, 2]) (by kernel_rfl) ?_
      refine seq_move 20 (v := (.int .i64 ((k : Nat) : Int))) rfl rfl rfl rfl e8 ?_
      refine seq_valD 21 rfl rfl rfl (run_incI rfl (ev_same (by first | (rw [hz]; decide) | (simp only [size_put, hz]; decide))) rfl (by omega)) ?_
      refine seq_assign 8 (v := (.int .i64 ((k + 1 : Nat) : Int))) rfl rfl rfl rfl (ev_same (by first | (rw [hz]; decide) | (simp only [size_put, hz]; decide))) ?_
      refine seq_nil ?_
      refine seq_out ((((KeepM.refl 9 [8] a16).put (by decide)).put (by decide)).put (by decide)) fun a18 k18 tr => ?_
      have f8 := tr 8 (.int .i64 ((k + 1 : Nat) : Int)) (ev_same (by first | (rw [hz]; decide) | (simp only [size_put, hz]; decide)))
      clear tr
      replace e1 := k18.ev e1 (by decide)
      replace e2 := k18.ev e2 (by decide)
      replace e3 := k18.ev e3 (by decide)
      replace e6 := k18.ev e6 (by decide)
      replace e7 := k18.ev e7 (by decide)
      replace hz := k18.size.trans hz
      replace hd := k18.defers.trans hd
      replace kk0 := kk0.trans (k18.mono (ys := [8]) (by decide))
      have e8 := f8
      clear f8
      refine ⟨⟨k + 1, by omega, kk0, e8, x3, x6, y, x7, hB⟩, ?_⟩
      rw [e8, e8s]; simp [intOf]; omega
  · rw [decide_eq_false (by omega)] at e19
    refine wp_cond_false e19 ?_
    refine wp_exit ?_
    refine exit_here1 (id := 0) ?_
    obtain rfl : N = k := by omega
    refine wp_seq ?_
    refine seq_startL (l := [0, 1]) (by kernel_rfl) ?_
    refine seq_valD 39 rfl rfl rfl (run_ldR rfl e7 (x7.cell 0) (x7.cell 1)) ?_
    refine seq_skipD rfl rfl rfl (run_stR rfl ((ev_ne (by decide)).trans e6) (ev_same (by first | (rw [hz]; decide) | (simp only [size_put, hz]; decide))) x6) ?_
    have y6 : RowT ((w11.setCell ⟨b6, 0, none⟩ (.int .i64 ((N : Nat) : Int))).setCell ⟨b6, 1, none⟩ (.slice (some ⟨g, 0, none⟩) N N)) b6 26 [.int .i64 ((N : Nat) : Int), .slice (some ⟨g, 0, none⟩) N N] := (x6.set_ 0 _).set_ 1 _
    replace x3 := (x3.far (p := ⟨b6, 0, none⟩) nx3_6 (.int .i64 ((N : Nat) : Int))).far (p := ⟨b6, 1, none⟩) nx3_6 (.slice (some ⟨g, 0, none⟩) N N)
    replace y := (y.keep (i := 0) x6 (by decide) (.int .i64 ((N : Nat) : Int))).keep (i := 1) (x6.set_ 0 (.int .i64 ((N : Nat) : Int))) (by decide) (.slice (some ⟨g, 0, none⟩) N N)
    replace x7 := (x7.far (p := ⟨b6, 0, none⟩) nx6_7.symm (.int .i64 ((N : Nat) : Int))).far (p := ⟨b6, 1, none⟩) nx6_7.symm (.slice (some ⟨g, 0, none⟩) N N)
    replace hB := (hB.setCell (p := ⟨b6, 0, none⟩) hge6 (.int .i64 ((N : Nat) : Int))).setCell (p := ⟨b6, 1, none⟩) hge6 (.slice (some ⟨g, 0, none⟩) N N)
    have x6 := y6
    clear y6
    generalize ((w11.setCell ⟨b6, 0, none⟩ (.int .i64 ((N : Nat) : Int))).setCell ⟨b6, 1, none⟩ (.slice (some ⟨g, 0, none⟩) N N)) = w19 at x3 x6 y x7 hB ⊢
    replace hS := hB.size
    refine seq_nil ?_
    refine seq_out ((KeepM.refl 9 [] a12).put (by decide)) fun a20 k20 tr => ?_
    clear tr
    replace e1 := k20.ev e1 (by decide)
    replace e2 := k20.ev e2 (by decide)
    replace e3 := k20.ev e3 (by decide)
    replace e6 := k20.ev e6 (by decide)
    replace e7 := k20.ev e7 (by decide)
    replace e8 := k20.ev e8 (by decide)
    replace hz := k20.size.trans hz
    replace hd := k20.defers.trans hd
    rw [midF_full] at y
    refine wp_ret ?_
    exact post_cell rfl hd e6 x6 (fin_R y (by simp) (onlyB_u hr.1 N) hB)
set_option maxRecDepth 100000 in
theorem rOnly_bad (r : RA) (f t : Nat) (w0 : World) (hT : Tab w0) (hr : r.good w0) (hsr : Short r.pr) (ho : r.ok = false) :
    Calls Tryd.prog 46 #[r.val, .int .u64 ((f : Nat) : Int), .int .u64 ((t : Nat) : Int)] w0 (RetR w0 PR.zero) := by
  have hrv : r.val = (.agg #[.int .i64 r.n, .slice r.A r.rows.length r.cap]) := rfl
  rw [hrv]
  refine calls_of_wp Tryd.func46 rfl ?_
  obtain ⟨hz, e0, e1, e2⟩ := start_act3 40 ((.agg #[.int .i64 r.n, .slice r.A r.rows.length r.cap])) ((.int .u64 ((f : Nat) : Int))) ((.int .u64 ((t : Nat) : Int))) (by decide)
  have hd : ({ tmps := #[(.agg #[.int .i64 r.n, .slice r.A r.rows.length r.cap]), (.int .u64 ((f : Nat) : Int)), (.int .u64 ((t : Nat) : Int))] ++ Array.replicate (40 - 3) undef, defers := [] } : Act).defers = [] := rfl
  rw [show Tryd.f46.ntmps - (#[(.agg #[.int .i64 r.n, .slice r.A r.rows.length r.cap]), (.int .u64 ((f : Nat) : Int)), (.int .u64 ((t : Nat) : Int))] : Array Value).size = 40 - 3 from rfl]
  generalize ({ tmps := #[(.agg #[.int .i64 r.n, .slice r.A r.rows.length r.cap]), (.int .u64 ((f : Nat) : Int)), (.int .u64 ((t : Nat) : Int))] ++ Array.replicate (40 - 3) undef, defers := [] } : Act) = a0 at hz e0 e1 e2 hd ⊢
  have hB : Below w0.heap.size w0 w0 := Below.refl _ _
  have hS := hB.size
  refine wp_seq ?_
  refine seq_startL (l := [0, 1]) (by kernel_rfl) ?_
  refine seq_valD 3 rfl rfl rfl (run_boxC rfl e0) ?_
  have x3 := RowT.new w0 26 [.int .i64 r.n, .slice r.A r.rows.length r.cap]
  replace hB := hB.al (o := .cells ([.int .i64 r.n, .slice r.A r.rows.length r.cap] : List Value).toArray 26)
  change wpOps _ _ _ _ _ (w0.alloc (.cells ([.int .i64 r.n, .slice r.A r.rows.length r.cap] : List Value).toArray 26))
  have hge3 : w0.heap.size ≤ w0.heap.size := hS
  generalize (w0.alloc (.cells ([.int .i64 r.n, .slice r.A r.rows.length r.cap] : List Value).toArray 26)) = w1 at x3 hB ⊢
  generalize w0.heap.size = b3 at x3 hge3 ⊢
  have hS := hB.size
  refine seq_valD 6 rfl rfl rfl (run_allocR rfl rfl) ?_
  have nx3_6 : b3 ≠ w1.heap.size := Nat.ne_of_lt x3.lt
  have x6 := RowT.new w1 26 [.int .i64 0, .slice none 0 0]
  replace x3 := x3.alloc (.cells ([.int .i64 0, .slice none 0 0] : List Value).toArray 26)
  replace hB := hB.al (o := .cells ([.int .i64 0, .slice none 0 0] : List Value).toArray 26)
  change wpOps _ _ _ _ _ (w1.alloc (.cells ([.int .i64 0, .slice none 0 0] : List Value).toArray 26))
  have hge6 : w0.heap.size ≤ w1.heap.size := hS
  generalize (w1.alloc (.cells ([.int .i64 0, .slice none 0 0] : List Value).toArray 26)) = w2 at x3 x6 hB ⊢
  generalize w1.heap.size = b6 at x6 hge6 nx3_6 ⊢
  have hS := hB.size
  refine seq_nil ?_
  refine seq_out (((KeepM.refl 9 [3, 6] a0).put (by decide)).put (by decide)) fun a3 k3 tr => ?_
  have f3 := tr 3 (.pointer (some ⟨b3, 0, none⟩)) ((ev_ne (by decide)).trans (ev_same (by first | (rw [hz]; decide) | (simp only [size_put, hz]; decide))))
  have f6 := tr 6 (.pointer (some ⟨b6, 0, none⟩)) (ev_same (by first | (rw [hz]; decide) | (simp only [size_put, hz]; decide)))
  clear tr
  replace e0 := k3.ev e0 (by decide)
  replace e1 := k3.ev e1 (by decide)
  replace e2 := k3.ev e2 (by decide)
  replace hz := k3.size.trans hz
  replace hd := k3.defers.trans hd
  have e3 := f3
  clear f3
  have e6 := f6
  clear f6
  refine wp_seq ?_
  refine wp_seq ?_
  refine seq_startL (l := [0, 1, 2]) (by kernel_rfl) ?_
  refine seq_valD 9 rfl rfl rfl (run_ldR rfl e3 (x3.cell 0) (x3.cell 1)) ?_
  refine seq_callD 10 rfl rfl rfl en_rCheck rfl (args_one (ev_same (by first | (rw [hz]; decide) | (simp only [size_put, hz]; decide)))) ((hrv ▸ C_rCheck r w2 (hT.on hB) (hr.on hB) hsr).mono ?_)
  rintro e w4 ⟨rfl, hb4⟩
  refine ⟨_, rfl, ?_⟩
  replace x3 := x3.below hb4 x3.lt
  replace x6 := x6.below hb4 x6.lt
  replace hB := Below.next hB hb4
  replace hS := hB.size
  refine seq_valD 11 rfl rfl rfl ((run_neE rfl (ev_same (by first | (rw [hz]; decide) | (simp only [size_put, hz]; decide))) rfl).trans (okB (c := true) (by rw [chk_not ho]; rfl))) ?_
  refine seq_nil ?_
  refine seq_out ((((KeepM.refl 9 [] a3).put (by decide)).put (by decide)).put (by decide)) fun a5 k5 tr => ?_
  have f11 := tr 11 (.bool true) (ev_same (by first | (rw [hz]; decide) | (simp only [size_put, hz]; decide)))
  clear tr
  replace e1 := k5.ev e1 (by decide)
  replace e2 := k5.ev e2 (by decide)
  replace e3 := k5.ev e3 (by decide)
  replace e6 := k5.ev e6 (by decide)
  replace hz := k5.size.trans hz
  replace hd := k5.defers.trans hd
  have e11 := f11
  clear f11
  refine wp_cond_true e11 ?_
  refine wp_seq ?_
  refine seq_startL (l := [0, 1]) (by kernel_rfl) ?_
  refine seq_valD 12 rfl rfl rfl (run_rel0 rfl) ?_
  refine seq_skipD rfl rfl rfl (run_stR rfl ((ev_ne (by decide)).trans e6) (ev_same (by first | (rw [hz]; decide) | (simp only [size_put, hz]; decide))) x6) ?_
  have y6 : RowT ((w4.setCell ⟨b6, 0, none⟩ (.int .i64 0)).setCell ⟨b6, 1, none⟩ (.slice none 0 0)) b6 26 [.int .i64 0, .slice none 0 0] := (x6.set_ 0 _).set_ 1 _
  replace x3 := (x3.far (p := ⟨b6, 0, none⟩) nx3_6 (.int .i64 0)).far (p := ⟨b6, 1, none⟩) nx3_6 (.slice none 0 0)
  replace hB := (hB.setCell (p := ⟨b6, 0, none⟩) hge6 (.int .i64 0)).setCell (p := ⟨b6, 1, none⟩) hge6 (.slice none 0 0)
  have x6 := y6
  clear y6
  generalize ((w4.setCell ⟨b6, 0, none⟩ (.int .i64 0)).setCell ⟨b6, 1, none⟩ (.slice none 0 0)) = w6 at x3 x6 hB ⊢
  replace hS := hB.size
  refine seq_nil ?_
  refine seq_out ((KeepM.refl 9 [] a5).put (by decide)) fun a7 k7 tr => ?_
  clear tr
  replace e1 := k7.ev e1 (by decide)
  replace e2 := k7.ev e2 (by decide)
  replace e3 := k7.ev e3 (by decide)
  replace e6 := k7.ev e6 (by decide)
  replace hz := k7.size.trans hz
  replace hd := k7.defers.trans hd
  refine wp_ret ?_
  exact post_cell rfl hd e6 x6 (fin_Z hB)
theorem rOnly_c (r : RA) (f t : Nat) (w : World) (hT : Tab w) (hr : r.good w) (hsr : Short r.pr) (ht : t < 18446744073709551616) :
    Calls Tryd.prog 46 #[r.val, .int .u64 ((f : Nat) : Int), .int .u64 ((t : Nat) : Int)] w (RetR w (Ponly r.pr f t)) := by
  unfold Ponly
  cases ho : r.ok with
  | false => rw [if_neg (fun e => by rw [show r.pr.ok = r.ok from rfl, ho] at e; cases e)]; exact rOnly_bad r f t w hT hr hsr ho
  | true =>
    obtain ⟨h1, h2, _⟩ := ok_rows (show r.pr.ok = true from ho)
    rw [if_pos (show r.pr.ok = true from ho), show r.pr.n = ((r.rows.length : Nat) : Int) from h1]
    exact rOnly_ok r f t r.rows.length w hT hr hsr ht ho h1 rfl h2
end Go.Proofs.YtigdecmfieaacaaDoor
namespace Go.Proofs.YtigdecmfieaacaaDoor
open Go Go.RowKit

/-- Column jj while row k is gone through, up to j. -/
def turnMid (rows : List Nat) (k j jj : Nat) : Nat := if jj < j then tcol rows (k + 1) jj else tcol rows k jj
theorem turnMid_zero (rows : List Nat) (k : Nat) : turnMid rows k 0 = tcol rows k := by funext i; simp [turnMid]
theorem turnMid_full (rows : List Nat) (k N : Nat) : (List.range N).map (turnMid rows k N) = (List.range N).map (tcol rows (k + 1)) :=
  List.map_congr_left fun i hi => by unfold turnMid; rw [if_pos (by simpa using hi)]
theorem turnMid_at (rows : List Nat) (k j : Nat) : turnMid rows k j j = tcol rows k j := by simp [turnMid]
theorem turnMid_succ {rows : List Nat} {k j : Nat} (h : (rows.getD k 0).testBit j = true) (i : Nat) : turnMid rows k (j + 1) i = if i = j then turnMid rows k j j ||| 2 ^ k else turnMid rows k j i := by
  rw [turnMid_at]
  by_cases e : i = j
  · subst e; unfold turnMid; rw [if_pos (by omega), if_pos rfl, tcol_succ, if_pos h]
  · rw [if_neg e]; unfold turnMid
    by_cases hl : i < j
    · rw [if_pos (by omega), if_pos hl]
    · rw [if_neg (by omega), if_neg hl]
theorem turnMid_idle {rows : List Nat} {k j : Nat} (h : (rows.getD k 0).testBit j = false) : turnMid rows k (j + 1) = turnMid rows k j := by
  funext i
  unfold turnMid
  by_cases e : i = j
  · subst e; rw [if_pos (by omega), if_neg (by omega), tcol_succ, if_neg (by rw [h]; simp)]
  · by_cases hl : i < j
    · rw [if_pos (by omega), if_pos hl]
    · rw [if_neg (by omega), if_neg hl]
theorem turnMid_lt (rows : List Nat) (k j i : Nat) (hk : k < 64) : turnMid rows k j i < 18446744073709551616 := by
  unfold turnMid
  split
  · exact Nat.lt_of_lt_of_le (tcol_lt rows (k + 1) i) (pow_le_64 _ (by omega))
  · exact Nat.lt_of_lt_of_le (tcol_lt rows k i) (pow_le_64 _ (by omega))
set_option maxRecDepth 100000 in
set_option maxHeartbeats 4000000 in
theorem rTurn_ok (r : RA) (N : Nat) (w0 : World) (hT : Tab w0) (hr : r.good w0) (hsr : Short r.pr) (ho : r.ok = true) (hnr : r.n = (N : Nat)) (hlr : r.rows.length = N) (h64 : N ≤ 64) :
    Calls Tryd.prog 42 #[r.val] w0 (RetR w0 ⟨((N : Nat) : Int), turnR r.rows⟩) := by
  have hrv : r.val = (.agg #[.int .i64 ((N : Nat) : Int), .slice r.A N r.cap]) := by unfold RA.val; rw [hnr, hlr]
  rw [hrv]
  refine calls_of_wp Tryd.func42 rfl ?_
  obtain ⟨hz, e0⟩ := start_act1 49 ((.agg #[.int .i64 ((N : Nat) : Int), .slice r.A N r.cap])) (by decide)
  have hd : ({ tmps := #[(.agg #[.int .i64 ((N : Nat) : Int), .slice r.A N r.cap])] ++ Array.replicate (49 - 1) undef, defers := [] } : Act).defers = [] := rfl
  rw [show Tryd.f42.ntmps - (#[(.agg #[.int .i64 ((N : Nat) : Int), .slice r.A N r.cap])] : Array Value).size = 49 - 1 from rfl]
  generalize ({ tmps := #[(.agg #[.int .i64 ((N : Nat) : Int), .slice r.A N r.cap])] ++ Array.replicate (49 - 1) undef, defers := [] } : Act) = a0 at hz e0 hd ⊢
  have hB : Below w0.heap.size w0 w0 := Below.refl _ _
  have hS := hB.size
  refine wp_seq ?_
  refine seq_startL (l := [0, 1]) (by kernel_rfl) ?_
  refine seq_valD 1 rfl rfl rfl (run_boxC rfl e0) ?_
  have x1 := RowT.new w0 26 [.int .i64 ((N : Nat) : Int), .slice r.A N r.cap]
  replace hB := hB.al (o := .cells ([.int .i64 ((N : Nat) : Int), .slice r.A N r.cap] : List Value).toArray 26)
  change wpOps _ _ _ _ _ (w0.alloc (.cells ([.int .i64 ((N : Nat) : Int), .slice r.A N r.cap] : List Value).toArray 26))
  generalize (w0.alloc (.cells ([.int .i64 ((N : Nat) : Int), .slice r.A N r.cap] : List Value).toArray 26)) = w1 at x1 hB ⊢
  generalize hbq1 : w0.heap.size = b1 at x1 ⊢
  have hge1 : w0.heap.size ≤ b1 := by rw [← hbq1]; exact hS
  clear hbq1
  have hS := hB.size
  refine seq_valD 2 rfl rfl rfl (run_allocR rfl rfl) ?_
  have nx1_2 : b1 ≠ w1.heap.size := Nat.ne_of_lt x1.lt
  have x2 := RowT.new w1 26 [.int .i64 0, .slice none 0 0]
  replace x1 := x1.alloc (.cells ([.int .i64 0, .slice none 0 0] : List Value).toArray 26)
  replace hB := hB.al (o := .cells ([.int .i64 0, .slice none 0 0] : List Value).toArray 26)
  change wpOps _ _ _ _ _ (w1.alloc (.cells ([.int .i64 0, .slice none 0 0] : List Value).toArray 26))
  generalize (w1.alloc (.cells ([.int .i64 0, .slice none 0 0] : List Value).toArray 26)) = w2 at x1 x2 hB ⊢
  generalize hbq2 : w1.heap.size = b2 at x2 nx1_2 ⊢
  have hge2 : w0.heap.size ≤ b2 := by rw [← hbq2]; exact hS
  clear hbq2
  have hS := hB.size
  refine seq_nil ?_
  refine seq_out (((KeepM.refl 6 [1, 2] a0).put (by decide)).put (by decide)) fun a3 k3 tr => ?_
  have f1 := tr 1 (.pointer (some ⟨b1, 0, none⟩)) ((ev_ne (by decide)).trans (ev_same (by first | (rw [hz]; decide) | (simp only [size_put, hz]; decide))))
  have f2 := tr 2 (.pointer (some ⟨b2, 0, none⟩)) (ev_same (by first | (rw [hz]; decide) | (simp only [size_put, hz]; decide)))
  clear tr
  replace e0 := k3.ev e0 (by decide)
  replace hz := k3.size.trans hz
  replace hd := k3.defers.trans hd
  have e1 := f1
  clear f1
  have e2 := f2
  clear f2
  refine wp_seq ?_
  refine wp_seq ?_
  refine seq_startL (l := [0, 1, 2]) (by kernel_rfl) ?_
  refine seq_valD 6 (v := (.agg #[.int .i64 ((N : Nat) : Int), .slice r.A N r.cap])) rfl rfl rfl (run_ldR rfl e1 (x1.cell 0) (x1.cell 1)) ?_
  refine seq_callD 7 rfl rfl rfl en_rCheck rfl (args_one (ev_same (by first | (rw [hz]; decide) | (simp only [size_put, hz]; decide)))) ((hrv ▸ C_rCheck r w2 (hT.on hB) (hr.on hB) hsr).mono ?_)
  rintro e w4 ⟨rfl, hb4⟩
  refine ⟨_, rfl, ?_⟩
  replace x1 := x1.below hb4 x1.lt
  replace x2 := x2.below hb4 x2.lt
  replace hB := Below.next hB hb4
  replace hS := hB.size
  refine seq_valD 8 (v := (.bool false)) rfl rfl rfl ((run_neE rfl (ev_same (by first | (rw [hz]; decide) | (simp only [size_put, hz]; decide))) rfl).trans (okB (c := false) (by rw [chk_yes ho]; rfl))) ?_
  refine seq_nil ?_
  refine seq_out ((((KeepM.refl 6 [] a3).put (by decide)).put (by decide)).put (by decide)) fun a5 k5 tr => ?_
  have f8 := tr 8 (.bool false) (ev_same (by first | (rw [hz]; decide) | (simp only [size_put, hz]; decide)))
  clear tr
  replace e1 := k5.ev e1 (by decide)
  replace e2 := k5.ev e2 (by decide)
  replace hz := k5.size.trans hz
  replace hd := k5.defers.trans hd
  have e8 := f8
  clear f8
  refine wp_cond_false e8 ?_
  refine wp_skip ?_
  refine wp_seq ?_
  refine seq_startL (l := [0, 1, 2, 3, 4]) (by kernel_rfl) ?_
  refine seq_valD 10 (v := (.pointer (some ⟨b1, 0, none⟩))) rfl rfl rfl (run_fp0 rfl e1) ?_
  refine seq_valD 11 (v := (.int .i64 ((N : Nat) : Int))) rfl rfl rfl (run_ldI rfl (ev_same (by first | (rw [hz]; decide) | (simp only [size_put, hz]; decide))) (x1.cell 0)) ?_
  refine seq_callD 12 rfl rfl rfl en_rNone rfl (args_one (ev_same (by first | (rw [hz]; decide) | (simp only [size_put, hz]; decide)))) ((rnone_ok N w4 h64).mono ?_)
  rintro e w6 ⟨v6, rfl, ⟨g, rfl, hgg, y⟩, hb6⟩
  refine ⟨_, rfl, ?_⟩
  replace hgg : w0.heap.size ≤ g := Nat.le_trans hS hgg
  replace x1 := x1.below hb6 x1.lt
  replace x2 := x2.below hb6 x2.lt
  replace hB := Below.next hB hb6
  replace hS := hB.size
  refine seq_valD 3 rfl rfl rfl (run_allocR rfl rfl) ?_
  have nx1_3 : b1 ≠ w6.heap.size := Nat.ne_of_lt x1.lt
  have nx2_3 : b2 ≠ w6.heap.size := Nat.ne_of_lt x2.lt
  have x3 := RowT.new w6 26 [.int .i64 0, .slice none 0 0]
  replace x1 := x1.alloc (.cells ([.int .i64 0, .slice none 0 0] : List Value).toArray 26)
  replace x2 := x2.alloc (.cells ([.int .i64 0, .slice none 0 0] : List Value).toArray 26)
  replace y := y.alloc (.cells ([.int .i64 0, .slice none 0 0] : List Value).toArray 26)
  replace hB := hB.al (o := .cells ([.int .i64 0, .slice none 0 0] : List Value).toArray 26)
  change wpOps _ _ _ _ _ (w6.alloc (.cells ([.int .i64 0, .slice none 0 0] : List Value).toArray 26))
  generalize (w6.alloc (.cells ([.int .i64 0, .slice none 0 0] : List Value).toArray 26)) = w7 at x1 x2 y x3 hB ⊢
  generalize hbq3 : w6.heap.size = b3 at x3 nx1_3 nx2_3 ⊢
  have hge3 : w0.heap.size ≤ b3 := by rw [← hbq3]; exact hS
  clear hbq3
  have hS := hB.size
  refine seq_skipD rfl rfl rfl (run_stR rfl (ev_same (by first | (rw [hz]; decide) | (simp only [size_put, hz]; decide))) ((ev_ne (by decide)).trans (ev_same (by first | (rw [hz]; decide) | (simp only [size_put, hz]; decide)))) x3) ?_
  have y3 : RowT ((w7.setCell ⟨b3, 0, none⟩ (.int .i64 ((N : Nat) : Int))).setCell ⟨b3, 1, none⟩ (.slice (some ⟨g, 0, none⟩) N N)) b3 26 [.int .i64 ((N : Nat) : Int), .slice (some ⟨g, 0, none⟩) N N] := (x3.set_ 0 _).set_ 1 _
  replace x1 := (x1.far (p := ⟨b3, 0, none⟩) nx1_3 (.int .i64 ((N : Nat) : Int))).far (p := ⟨b3, 1, none⟩) nx1_3 (.slice (some ⟨g, 0, none⟩) N N)
  replace x2 := (x2.far (p := ⟨b3, 0, none⟩) nx2_3 (.int .i64 ((N : Nat) : Int))).far (p := ⟨b3, 1, none⟩) nx2_3 (.slice (some ⟨g, 0, none⟩) N N)
  replace y := (y.keep (i := 0) x3 (by decide) (.int .i64 ((N : Nat) : Int))).keep (i := 1) (x3.set_ 0 (.int .i64 ((N : Nat) : Int))) (by decide) (.slice (some ⟨g, 0, none⟩) N N)
  replace hB := (hB.setCell (p := ⟨b3, 0, none⟩) hge3 (.int .i64 ((N : Nat) : Int))).setCell (p := ⟨b3, 1, none⟩) hge3 (.slice (some ⟨g, 0, none⟩) N N)
  have x3 := y3
  clear y3
  generalize ((w7.setCell ⟨b3, 0, none⟩ (.int .i64 ((N : Nat) : Int))).setCell ⟨b3, 1, none⟩ (.slice (some ⟨g, 0, none⟩) N N)) = w8 at x1 x2 y x3 hB ⊢
  replace hS := hB.size
  refine seq_nil ?_
  refine seq_out (((((KeepM.refl 6 [3] a5).put (by decide)).put (by decide)).put (by decide)).put (by decide)) fun a9 k9 tr => ?_
  have f3 := tr 3 (.pointer (some ⟨b3, 0, none⟩)) (ev_same (by first | (rw [hz]; decide) | (simp only [size_put, hz]; decide)))
  clear tr
  replace e1 := k9.ev e1 (by decide)
  replace e2 := k9.ev e2 (by decide)
  replace hz := k9.size.trans hz
  replace hd := k9.defers.trans hd
  have e3 := f3
  clear f3
  have y0 : RowT w8 g 37 (((List.range N).map (tcol r.rows 0)).map U) := by rw [map_zeros]; exact y
  clear y
  have y := y0
  clear y0
  refine wp_seq ?_
  refine wp_seq ?_
  refine seq_startL (l := [0]) (by kernel_rfl) ?_
  refine seq_assign 4 (v := (.int .i64 0)) rfl rfl rfl rfl rfl ?_
  refine seq_nil ?_
  refine seq_out ((KeepM.refl 6 [4] a9).put (by decide)) fun a10 k10 tr => ?_
  have f4 := tr 4 (.int .i64 0) (ev_same (by first | (rw [hz]; decide) | (simp only [size_put, hz]; decide)))
  clear tr
  replace e1 := k10.ev e1 (by decide)
  replace e2 := k10.ev e2 (by decide)
  replace e3 := k10.ev e3 (by decide)
  replace hz := k10.size.trans hz
  replace hd := k10.defers.trans hd
  have e4 := f4
  clear f4
  refine wp_block ?_
  refine wp_loop (fun aq wq => ∃ (k : Nat), (k ≤ N) ∧ KeepM 6 [4, 5] a10 aq ∧ aq.eval (.tmp 4) = (.int .i64 ((k : Nat) : Int)) ∧ RowT wq b1 26 [.int .i64 ((N : Nat) : Int), .slice r.A N r.cap] ∧ RowT wq b2 26 [.int .i64 0, .slice none 0 0] ∧ RowT wq g 37 (((List.range N).map (tcol r.rows k)).map U) ∧ RowT wq b3 26 [.int .i64 ((N : Nat) : Int), .slice (some ⟨g, 0, none⟩) N N] ∧ Below w0.heap.size w0 wq) (fun aq _ => N - (intOf (aq.eval (.tmp 4))).toNat) ⟨0, Nat.zero_le _, KeepM.refl _ _ _, e4, x1, x2, y, x3, hB⟩ ?_
  rintro a11 w11 ⟨k, hk0, kk0, g4, qx1, qx2, qy, qx3, qB⟩
  replace e1 := kk0.ev e1 (by decide)
  replace e2 := kk0.ev e2 (by decide)
  replace e3 := kk0.ev e3 (by decide)
  replace hz := kk0.size.trans hz
  replace hd := kk0.defers.trans hd
  clear e4 x1 x2 y x3 hB hS
  have e4 := g4
  have x1 := qx1
  have x2 := qx2
  have y := qy
  have x3 := qx3
  have hB := qB
  have hS := hB.size
  clear qx1 qx2 qy qx3 qB
  have e4s := e4
  refine wp_seq ?_
  refine wp_seq ?_
  refine seq_startL (l := [0, 1, 2, 3]) (by kernel_rfl) ?_
  refine seq_move 13 (v := (.int .i64 ((k : Nat) : Int))) rfl rfl rfl rfl e4 ?_
  refine seq_valD 14 (v := (.pointer (some ⟨b1, 0, none⟩))) rfl rfl rfl (run_fp0 rfl ((ev_ne (by decide)).trans e1)) ?_
  refine seq_valD 15 (v := (.int .i64 ((N : Nat) : Int))) rfl rfl rfl (run_ldI rfl (ev_same (by first | (rw [hz]; decide) | (simp only [size_put, hz]; decide))) (x1.cell 0)) ?_
  refine seq_valD 16 (v := (.bool (decide (((k : Nat) : Int) < ((N : Nat) : Int))))) rfl rfl rfl (run_ltI rfl ((ev_ne (by decide)).trans ((ev_ne (by decide)).trans (ev_same (by first | (rw [hz]; decide) | (simp only [size_put, hz]; decide))))) (ev_same (by first | (rw [hz]; decide) | (simp only [size_put, hz]; decide)))) ?_
  refine seq_nil ?_
  refine seq_out (((((KeepM.refl 6 [] a11).put (by decide)).put (by decide)).put (by decide)).put (by decide)) fun a12 k12 tr => ?_
  have f16 := tr 16 (.bool (decide (((k : Nat) : Int) < ((N : Nat) : Int)))) (ev_same (by first | (rw [hz]; decide) | (simp only [size_put, hz]; decide)))
  clear tr
  replace e1 := k12.ev e1 (by decide)
  replace e2 := k12.ev e2 (by decide)
  replace e3 := k12.ev e3 (by decide)
  replace e4 := k12.ev e4 (by decide)
  replace hz := k12.size.trans hz
  replace hd := k12.defers.trans hd
  replace kk0 := kk0.trans (k12.mono (ys := [4, 5]) (by decide))
  have e16 := f16
  clear f16
  by_cases hltk : k < N
  · rw [decide_eq_true (by omega)] at e16
    refine wp_cond_true e16 ?_
    refine wp_skip ?_
    refine wp_seq ?_
    refine wp_block ?_
    refine wp_seq ?_
    refine seq_startL (l := [0]) (by kernel_rfl) ?_
    refine seq_assign 5 (v := (.int .i64 0)) rfl rfl rfl rfl rfl ?_
    refine seq_nil ?_
    refine seq_out ((KeepM.refl 6 [5] a12).put (by decide)) fun a13 k13 tr => ?_
    have f5 := tr 5 (.int .i64 0) (ev_same (by first | (rw [hz]; decide) | (simp only [size_put, hz]; decide)))
    clear tr
    replace e1 := k13.ev e1 (by decide)
    replace e2 := k13.ev e2 (by decide)
    replace e3 := k13.ev e3 (by decide)
    replace e4 := k13.ev e4 (by decide)
    replace hz := k13.size.trans hz
    replace hd := k13.defers.trans hd
    replace kk0 := kk0.trans (k13.mono (ys := [4, 5]) (by decide))
    have e5 := f5
    clear f5
    rw [← turnMid_zero] at y
    refine wp_block ?_
    refine wp_loop (fun aq wq => ∃ (j : Nat), (j ≤ N) ∧ KeepM 6 [5] a13 aq ∧ aq.eval (.tmp 5) = (.int .i64 ((j : Nat) : Int)) ∧ RowT wq b1 26 [.int .i64 ((N : Nat) : Int), .slice r.A N r.cap] ∧ RowT wq b2 26 [.int .i64 0, .slice none 0 0] ∧ RowT wq g 37 (((List.range N).map (turnMid r.rows k j)).map U) ∧ RowT wq b3 26 [.int .i64 ((N : Nat) : Int), .slice (some ⟨g, 0, none⟩) N N] ∧ Below w0.heap.size w0 wq) (fun aq _ => N - (intOf (aq.eval (.tmp 5))).toNat) ⟨0, Nat.zero_le _, KeepM.refl _ _ _, e5, x1, x2, y, x3, hB⟩ ?_
    rintro a14 w14 ⟨j, hk2, kk2, g5, qx1, qx2, qy, qx3, qB⟩
    replace e1 := kk2.ev e1 (by decide)
    replace e2 := kk2.ev e2 (by decide)
    replace e3 := kk2.ev e3 (by decide)
    replace e4 := kk2.ev e4 (by decide)
    replace hz := kk2.size.trans hz
    replace hd := kk2.defers.trans hd
    replace kk0 := kk0.trans (kk2.mono (ys := [4, 5]) (by decide))
    clear e5 x1 x2 y x3 hB hS
    have e5 := g5
    have x1 := qx1
    have x2 := qx2
    have y := qy
    have x3 := qx3
    have hB := qB
    have hS := hB.size
    clear qx1 qx2 qy qx3 qB
    have e5s := e5
    refine wp_seq ?_
    refine wp_seq ?_
    refine seq_startL (l := [0, 1, 2, 3]) (by kernel_rfl) ?_
    refine seq_move 19 (v := (.int .i64 ((j : Nat) : Int))) rfl rfl rfl rfl e5 ?_
    refine seq_valD 20 (v := (.pointer (some ⟨b1, 0, none⟩))) rfl rfl rfl (run_fp0 rfl ((ev_ne (by decide)).trans e1)) ?_
    refine seq_valD 21 (v := (.int .i64 ((N : Nat) : Int))) rfl rfl rfl (run_ldI rfl (ev_same (by first | (rw [hz]; decide) | (simp only [size_put, hz]; decide))) (x1.cell 0)) ?_
    refine seq_valD 22 (v := (.bool (decide (((j : Nat) : Int) < ((N : Nat) : Int))))) rfl rfl rfl (run_ltI rfl ((ev_ne (by decide)).trans ((ev_ne (by decide)).trans (ev_same (by first | (rw [hz]; decide) | (simp only [size_put, hz]; decide))))) (ev_same (by first | (rw [hz]; decide) | (simp only [size_put, hz]; decide)))) ?_
    refine seq_nil ?_
    refine seq_out (((((KeepM.refl 6 [] a14).put (by decide)).put (by decide)).put (by decide)).put (by decide)) fun a15 k15 tr => ?_
    have f22 := tr 22 (.bool (decide (((j : Nat) : Int) < ((N : Nat) : Int)))) (ev_same (by first | (rw [hz]; decide) | (simp only [size_put, hz]; decide)))
    clear tr
    replace e1 := k15.ev e1 (by decide)
    replace e2 := k15.ev e2 (by decide)
    replace e3 := k15.ev e3 (by decide)
    replace e4 := k15.ev e4 (by decide)
    replace e5 := k15.ev e5 (by decide)
    replace hz := k15.size.trans hz
    replace hd := k15.defers.trans hd
    replace kk0 := kk0.trans (k15.mono (ys := [4, 5]) (by decide))
    replace kk2 := kk2.trans (k15.mono (ys := [5]) (by decide))
    have e22 := f22
    clear f22
    by_cases hltj : j < N
    · rw [decide_eq_true (by omega)] at e22
      refine wp_cond_true e22 ?_
      refine wp_skip ?_
      refine wp_seq ?_
      refine wp_block ?_
      refine wp_seq ?_
      obtain ⟨ad, hA, hal1, hcA, huA⟩ := good_row (hr.on hB) (k := k) (by omega)
      cases hbt : (r.rows.getD k 0).testBit j with
      | false =>
        refine seq_startL (l := [0, 1, 2, 3, 4, 5, 6, 7, 8, 9]) (by kernel_rfl) ?_
        refine seq_valD 25 (v := (.pointer (some ⟨b1, 1, none⟩))) rfl rfl rfl (run_fp1 rfl e1) ?_
        refine seq_valD 26 (v := (.slice (some ad) N r.cap)) rfl rfl rfl (run_ldS rfl (ev_same (by first | (rw [hz]; decide) | (simp only [size_put, hz]; decide))) (by rw [← hA]; exact x1.cell 1)) ?_
        refine seq_move 27 (v := (.int .i64 ((k : Nat) : Int))) rfl rfl rfl rfl ((ev_ne (by decide)).trans ((ev_ne (by decide)).trans e4)) ?_
        refine seq_valD 28 (v := (.pointer (some (ad.add k)))) rfl rfl rfl (run_ixU (k := k) rfl ((ev_ne (by decide)).trans (ev_same (by first | (rw [hz]; decide) | (simp only [size_put, hz]; decide)))) (ev_same (by first | (rw [hz]; decide) | (simp only [size_put, hz]; decide))) hltk) ?_
        refine seq_valD 29 (v := (.int .u64 (((r.rows.getD k 0) : Nat) : Int))) rfl rfl rfl (run_ldU rfl (ev_same (by first | (rw [hz]; decide) | (simp only [size_put, hz]; decide))) hcA) ?_
        refine seq_move 30 (v := (.int .i64 ((j : Nat) : Int))) rfl rfl rfl rfl ((ev_ne (by decide)).trans ((ev_ne (by decide)).trans ((ev_ne (by decide)).trans ((ev_ne (by decide)).trans ((ev_ne (by decide)).trans e5))))) ?_
        refine seq_valD 31 (v := (.int .u64 ((j : Nat) : Int))) rfl rfl rfl (run_cvU rfl (ev_same (by first | (rw [hz]; decide) | (simp only [size_put, hz]; decide))) (by omega)) ?_
        refine seq_valD 32 (v := (.int .u64 ((((r.rows.getD k 0) / 2 ^ j) : Nat) : Int))) rfl rfl rfl (run_shr rfl ((ev_ne (by decide)).trans ((ev_ne (by decide)).trans (ev_same (by first | (rw [hz]; decide) | (simp only [size_put, hz]; decide))))) (ev_same (by first | (rw [hz]; decide) | (simp only [size_put, hz]; decide))) (by omega)) ?_
        refine seq_valD 33 (v := (.int .u64 (((((r.rows.getD k 0) / 2 ^ j) % 2) : Nat) : Int))) rfl rfl rfl (run_rem2 rfl (ev_same (by first | (rw [hz]; decide) | (simp only [size_put, hz]; decide))) rfl) ?_
        refine seq_valD 34 (v := (.bool false)) rfl rfl rfl ((run_eqU rfl (ev_same (by first | (rw [hz]; decide) | (simp only [size_put, hz]; decide))) rfl).trans (okB (c := false) (bit_eq hbt))) ?_
        refine seq_nil ?_
        refine seq_out (((((((((((KeepM.refl 6 [] a15).put (by decide)).put (by decide)).put (by decide)).put (by decide)).put (by decide)).put (by decide)).put (by decide)).put (by decide)).put (by decide)).put (by decide)) fun a16 k16 tr => ?_
        have f34 := tr 34 (.bool false) (ev_same (by first | (rw [hz]; decide) | (simp only [size_put, hz]; decide)))
        clear tr
        replace e1 := k16.ev e1 (by decide)
        replace e2 := k16.ev e2 (by decide)
        replace e3 := k16.ev e3 (by decide)
        replace e4 := k16.ev e4 (by decide)
        replace e5 := k16.ev e5 (by decide)
        replace hz := k16.size.trans hz
        replace hd := k16.defers.trans hd
        replace kk0 := kk0.trans (k16.mono (ys := [4, 5]) (by decide))
        replace kk2 := kk2.trans (k16.mono (ys := [5]) (by decide))
        have e34 := f34
        clear f34
        refine wp_cond_false e34 ?_
        refine wp_skip ?_
        rw [← turnMid_idle hbt] at y
        refine seq_startL (l := [0, 1, 2]) (by kernel_rfl) ?_
        refine seq_move 23 (v := (.int .i64 ((j : Nat) : Int))) rfl rfl rfl rfl e5 ?_
        refine seq_valD 24 (v := (.int .i64 ((j + 1 : Nat) : Int))) rfl rfl rfl (run_incI rfl (ev_same (by first | (rw [hz]; decide) | (simp only [size_put, hz]; decide))) rfl (by omega)) ?_
        refine seq_assign 5 (v := (.int .i64 ((j + 1 : Nat) : Int))) rfl rfl rfl rfl (ev_same (by first | (rw [hz]; decide) | (simp only [size_put, hz]; decide))) ?_
        refine seq_nil ?_
        refine seq_out ((((KeepM.refl 6 [5] a16).put (by decide)).put (by decide)).put (by decide)) fun a17 k17 tr => ?_
        have f5 := tr 5 (.int .i64 ((j + 1 : Nat) : Int)) (ev_same (by first | (rw [hz]; decide) | (simp only [size_put, hz]; decide)))
        clear tr
        replace e1 := k17.ev e1 (by decide)
        replace e2 := k17.ev e2 (by decide)
        replace e3 := k17.ev e3 (by decide)
        replace e4 := k17.ev e4 (by decide)
        replace hz := k17.size.trans hz
        replace hd := k17.defers.trans hd
        replace kk0 := kk0.trans (k17.mono (ys := [4, 5]) (by decide))
        replace kk2 := kk2.trans (k17.mono (ys := [5]) (by decide))
        have e5 := f5
        clear f5
        refine ⟨⟨j + 1, by omega, kk2, e5, x1, x2, y, x3, hB⟩, ?_⟩
        rw [e5, e5s]; simp [intOf]; omega
      | true =>
        refine seq_startL (l := [0, 1, 2, 3, 4, 5, 6, 7, 8, 9]) (by kernel_rfl) ?_
        refine seq_valD 25 (v := (.pointer (some ⟨b1, 1, none⟩))) rfl rfl rfl (run_fp1 rfl e1) ?_
        refine seq_valD 26 (v := (.slice (some ad) N r.cap)) rfl rfl rfl (run_ldS rfl (ev_same (by first | (rw [hz]; decide) | (simp only [size_put, hz]; decide))) (by rw [← hA]; exact x1.cell 1)) ?_
        refine seq_move 27 (v := (.int .i64 ((k : Nat) : Int))) rfl rfl rfl rfl ((ev_ne (by decide)).trans ((ev_ne (by decide)).trans e4)) ?_
        refine seq_valD 28 (v := (.pointer (some (ad.add k)))) rfl rfl rfl (run_ixU (k := k) rfl ((ev_ne (by decide)).trans (ev_same (by first | (rw [hz]; decide) | (simp only [size_put, hz]; decide)))) (ev_same (by first | (rw [hz]; decide) | (simp only [size_put, hz]; decide))) hltk) ?_
        refine seq_valD 29 (v := (.int .u64 (((r.rows.getD k 0) : Nat) : Int))) rfl rfl rfl (run_ldU rfl (ev_same (by first | (rw [hz]; decide) | (simp only [size_put, hz]; decide))) hcA) ?_
        refine seq_move 30 (v := (.int .i64 ((j : Nat) : Int))) rfl rfl rfl rfl ((ev_ne (by decide)).trans ((ev_ne (by decide)).trans ((ev_ne (by decide)).trans ((ev_ne (by decide)).trans ((ev_ne (by decide)).trans e5))))) ?_
        refine seq_valD 31 (v := (.int .u64 ((j : Nat) : Int))) rfl rfl rfl (run_cvU rfl (ev_same (by first | (rw [hz]; decide) | (simp only [size_put, hz]; decide))) (by omega)) ?_
        refine seq_valD 32 (v := (.int .u64 ((((r.rows.getD k 0) / 2 ^ j) : Nat) : Int))) rfl rfl rfl (run_shr rfl ((ev_ne (by decide)).trans ((ev_ne (by decide)).trans (ev_same (by first | (rw [hz]; decide) | (simp only [size_put, hz]; decide))))) (ev_same (by first | (rw [hz]; decide) | (simp only [size_put, hz]; decide))) (by omega)) ?_
        refine seq_valD 33 (v := (.int .u64 (((((r.rows.getD k 0) / 2 ^ j) % 2) : Nat) : Int))) rfl rfl rfl (run_rem2 rfl (ev_same (by first | (rw [hz]; decide) | (simp only [size_put, hz]; decide))) rfl) ?_
        refine seq_valD 34 (v := (.bool true)) rfl rfl rfl ((run_eqU rfl (ev_same (by first | (rw [hz]; decide) | (simp only [size_put, hz]; decide))) rfl).trans (okB (c := true) (bit_eq hbt))) ?_
        refine seq_nil ?_
        refine seq_out (((((((((((KeepM.refl 6 [] a15).put (by decide)).put (by decide)).put (by decide)).put (by decide)).put (by decide)).put (by decide)).put (by decide)).put (by decide)).put (by decide)).put (by decide)) fun a18 k18 tr => ?_
        have f34 := tr 34 (.bool true) (ev_same (by first | (rw [hz]; decide) | (simp only [size_put, hz]; decide)))
        clear tr
        replace e1 := k18.ev e1 (by decide)
        replace e2 := k18.ev e2 (by decide)
        replace e3 := k18.ev e3 (by decide)
        replace e4 := k18.ev e4 (by decide)
        replace e5 := k18.ev e5 (by decide)
        replace hz := k18.size.trans hz
        replace hd := k18.defers.trans hd
        replace kk0 := kk0.trans (k18.mono (ys := [4, 5]) (by decide))
        replace kk2 := kk2.trans (k18.mono (ys := [5]) (by decide))
        have e34 := f34
        clear f34
        refine wp_cond_true e34 ?_
        have hlast : lastOk (regOps Tryd.f42 11) 13 = true := by kernel_rfl
        refine region_w (n := 14) [some (.pointer (some ⟨b3, 1, none⟩)), some (.slice (some ⟨g, 0, none⟩) N N), some (.int .i64 ((j : Nat) : Int)), some (.pointer (some ⟨b3, 1, none⟩)), some (.slice (some ⟨g, 0, none⟩) N N), some (.int .i64 ((j : Nat) : Int)), some (.pointer (some ((⟨g, 0, none⟩ : Addr).add j))), some (.int .u64 (((turnMid r.rows k j j) : Nat) : Int)), some (.int .i64 ((k : Nat) : Int)), some (.int .u64 ((k : Nat) : Int)), some (.int .u64 (((2 ^ k) : Nat) : Int)), some (.int .u64 ((((turnMid r.rows k j j) ||| (2 ^ k)) : Nat) : Int)), some (.pointer (some ((⟨g, 0, none⟩ : Addr).add j))), none] 13 w14 (w14.drew.setCell ((⟨g, 0, none⟩ : Addr).add j) (.int .u64 ((((turnMid r.rows k j j) ||| (2 ^ k)) : Nat) : Int))) (by kernel_rfl) (by rw [hz]; kernel_rfl) (by kernel_rfl) (by kernel_rfl) (by kernel_rfl) (by kernel_rfl) ?_ fun L a19 w19 hL st => ?_
        · refine ⟨⟨⟨⟨⟨⟨⟨⟨⟨⟨⟨⟨⟨⟨trivial, ?_⟩, ?_⟩, ?_⟩, ?_⟩, ?_⟩, ?_⟩, ?_⟩, ?_⟩, ?_⟩, ?_⟩, ?_⟩, ?_⟩, ?_⟩, ?_⟩
          · intro o a w L ho hL haft st; obtain rfl := Option.some.inj ho; exact payW st hlast hL (by decide) (want_none rfl) (run_fp1 rfl (st.outV (by kernel_rfl) e3)) rfl
          · intro o a w L ho hL haft st; obtain rfl := Option.some.inj ho; exact payW st hlast hL (by decide) (want_none rfl) (run_ldS rfl (st.argV (j := 0) (aft_of haft (by kernel_rfl)) rfl rfl) (x3.cell 1)) rfl
          · intro o a w L ho hL haft st; obtain rfl := Option.some.inj ho; exact payW_move st hlast hL (by decide) (want_none rfl) rfl (st.outV (by kernel_rfl) e5) rfl
          · intro o a w L ho hL haft st; obtain rfl := Option.some.inj ho; exact payW st hlast hL (by decide) (want_none rfl) (run_fp1 rfl (st.outV (by kernel_rfl) e3)) rfl
          · intro o a w L ho hL haft st; obtain rfl := Option.some.inj ho; exact payW st hlast hL (by decide) (want_none rfl) (run_ldS rfl (st.argV (j := 3) (aft_of haft (by kernel_rfl)) rfl rfl) (x3.cell 1)) rfl
          · intro o a w L ho hL haft st; obtain rfl := Option.some.inj ho; exact payW_move st hlast hL (by decide) (want_none rfl) rfl (st.outV (by kernel_rfl) e5) rfl
          · intro o a w L ho hL haft st; obtain rfl := Option.some.inj ho; exact payW st hlast hL (by decide) (want_none rfl) (run_ixU (k := j) rfl (st.argV (j := 4) (aft_of haft (by kernel_rfl)) rfl rfl) (st.argV (j := 5) (aft_of haft (by kernel_rfl)) rfl rfl) hltj) rfl
          · intro o a w L ho hL haft st; obtain rfl := Option.some.inj ho; exact payW st hlast hL (by decide) (want_none rfl) (run_ldU rfl (st.argV (j := 6) (aft_of haft (by kernel_rfl)) rfl rfl) (y.addc (row_get hltj))) rfl
          · intro o a w L ho hL haft st; obtain rfl := Option.some.inj ho; exact payW_move st hlast hL (by decide) (want_none rfl) rfl (st.outV (by kernel_rfl) e4) rfl
          · intro o a w L ho hL haft st; obtain rfl := Option.some.inj ho; exact payW st hlast hL (by decide) (want_none rfl) (run_cvU rfl (st.argV (j := 8) (aft_of haft (by kernel_rfl)) rfl rfl) (by omega)) rfl
          · intro o a w L ho hL haft st; obtain rfl := Option.some.inj ho; exact payW st hlast hL (by decide) (want_none rfl) (run_shl1 rfl rfl (st.argV (j := 9) (aft_of haft (by kernel_rfl)) rfl rfl) (by omega)) rfl
          · intro o a w L ho hL haft st; obtain rfl := Option.some.inj ho; exact payW st hlast hL (by decide) (want_none rfl) (run_orU rfl (st.argV (j := 7) (aft_of haft (by kernel_rfl)) rfl rfl) (st.argV (j := 10) (aft_of haft (by kernel_rfl)) rfl rfl) (turnMid_lt _ _ _ _ (by omega)) (pow_lt_64 k (by omega))) rfl
          · intro o a w L ho hL haft st; obtain rfl := Option.some.inj ho; exact payW st hlast hL (by decide) (want_none rfl) (run_ixU (k := j) rfl (st.argV (j := 1) (aft_of haft (by kernel_rfl)) rfl rfl) (st.argV (j := 2) (aft_of haft (by kernel_rfl)) rfl rfl) hltj) rfl
          · intro o a w L ho hL haft st; obtain rfl := Option.some.inj ho; exact storeW st hlast hL (want_none rfl) (run_stU rfl (st.argV (j := 12) (aft_of haft (by kernel_rfl)) rfl rfl) (st.argV (j := 11) (aft_of haft (by kernel_rfl)) rfl rfl) (y.addc (row_get hltj)) y.addf) rfl
        clear hlast
        obtain rfl := st.end2 hL (by omega)
        have k19 : KeepM 6 [] a18 a19 := st.keepM (by kernel_rfl)
        clear st hL L
        replace e1 := k19.ev e1 (by decide)
        replace e2 := k19.ev e2 (by decide)
        replace e3 := k19.ev e3 (by decide)
        replace e4 := k19.ev e4 (by decide)
        replace e5 := k19.ev e5 (by decide)
        replace hz := k19.size.trans hz
        replace hd := k19.defers.trans hd
        replace kk0 := kk0.trans (k19.mono (ys := [4, 5]) (by decide))
        replace kk2 := kk2.trans (k19.mono (ys := [5]) (by decide))
        rw [add0]
        replace x1 := x1.drew.keep (i := j) y.drew (by decide) (.int .u64 ((((turnMid r.rows k j j) ||| (2 ^ k)) : Nat) : Int))
        replace x2 := x2.drew.keep (i := j) y.drew (by decide) (.int .u64 ((((turnMid r.rows k j j) ||| (2 ^ k)) : Nat) : Int))
        replace x3 := x3.drew.keep (i := j) y.drew (by decide) (.int .u64 ((((turnMid r.rows k j j) ||| (2 ^ k)) : Nat) : Int))
        replace y := row_set (F' := turnMid r.rows k (j + 1)) y.drew (fun i => turnMid_succ hbt i)
        replace hB := hB.drew.setCell (p := ⟨g, j, none⟩) hgg (.int .u64 ((((turnMid r.rows k j j) ||| (2 ^ k)) : Nat) : Int))
        generalize (w14.drew.setCell ⟨g, j, none⟩ (.int .u64 ((((turnMid r.rows k j j) ||| (2 ^ k)) : Nat) : Int))) = w20 at x1 x2 y x3 hB ⊢
        replace hS := hB.size
        refine seq_startL (l := [0, 1, 2]) (by kernel_rfl) ?_
        refine seq_move 23 (v := (.int .i64 ((j : Nat) : Int))) rfl rfl rfl rfl e5 ?_
        refine seq_valD 24 (v := (.int .i64 ((j + 1 : Nat) : Int))) rfl rfl rfl (run_incI rfl (ev_same (by first | (rw [hz]; decide) | (simp only [size_put, hz]; decide))) rfl (by omega)) ?_
        refine seq_assign 5 (v := (.int .i64 ((j + 1 : Nat) : Int))) rfl rfl rfl rfl (ev_same (by first | (rw [hz]; decide) | (simp only [size_put, hz]; decide))) ?_
        refine seq_nil ?_
        refine seq_out ((((KeepM.refl 6 [5] a19).put (by decide)).put (by decide)).put (by decide)) fun a21 k21 tr => ?_
        have f5 := tr 5 (.int .i64 ((j + 1 : Nat) : Int)) (ev_same (by first | (rw [hz]; decide) | (simp only [size_put, hz]; decide)))
        clear tr
        replace e1 := k21.ev e1 (by decide)
        replace e2 := k21.ev e2 (by decide)
        replace e3 := k21.ev e3 (by decide)
        replace e4 := k21.ev e4 (by decide)
        replace hz := k21.size.trans hz
        replace hd := k21.defers.trans hd
        replace kk0 := kk0.trans (k21.mono (ys := [4, 5]) (by decide))
        replace kk2 := kk2.trans (k21.mono (ys := [5]) (by decide))
        have e5 := f5
        clear f5
        refine ⟨⟨j + 1, by omega, kk2, e5, x1, x2, y, x3, hB⟩, ?_⟩
        rw [e5, e5s]; simp [intOf]; omega
    · rw [decide_eq_false (by omega)] at e22
      refine wp_cond_false e22 ?_
      refine wp_exit ?_
      refine exit_here1 (id := 2) ?_
      obtain rfl : N = j := by omega
      rw [turnMid_full] at y
      refine seq_startL (l := [0, 1, 2]) (by kernel_rfl) ?_
      refine seq_move 17 (v := (.int .i64 ((k : Nat) : Int))) rfl rfl rfl rfl e4 ?_
      refine seq_valD 18 (v := (.int .i64 ((k + 1 : Nat) : Int))) rfl rfl rfl (run_incI rfl (ev_same (by first | (rw [hz]; decide) | (simp only [size_put, hz]; decide))) rfl (by omega)) ?_
      refine seq_assign 4 (v := (.int .i64 ((k + 1 : Nat) : Int))) rfl rfl rfl rfl (ev_same (by first | (rw [hz]; decide) | (simp only [size_put, hz]; decide))) ?_
      refine seq_nil ?_
      refine seq_out ((((KeepM.refl 6 [4] a15).put (by decide)).put (by decide)).put (by decide)) fun a22 k22 tr => ?_
      have f4 := tr 4 (.int .i64 ((k + 1 : Nat) : Int)) (ev_same (by first | (rw [hz]; decide) | (simp only [size_put, hz]; decide)))
      clear tr
      replace e1 := k22.ev e1 (by decide)
      replace e2 := k22.ev e2 (by decide)
      replace e3 := k22.ev e3 (by decide)
      replace e5 := k22.ev e5 (by decide)
      replace hz := k22.size.trans hz
      replace hd := k22.defers.trans hd
      replace kk0 := kk0.trans (k22.mono (ys := [4, 5]) (by decide))
      have e4 := f4
      clear f4
      refine ⟨⟨k + 1, by omega, kk0, e4, x1, x2, y, x3, hB⟩, ?_⟩
      rw [e4, e4s]; simp [intOf]; omega
  · rw [decide_eq_false (by omega)] at e16
    refine wp_cond_false e16 ?_
    refine wp_exit ?_
    refine exit_here1 (id := 0) ?_
    obtain rfl : N = k := by omega
    refine wp_seq ?_
    refine seq_startL (l := [0, 1]) (by kernel_rfl) ?_
    refine seq_valD 48 (v := (.agg #[.int .i64 ((N : Nat) : Int), .slice (some ⟨g, 0, none⟩) N N])) rfl rfl rfl (run_ldR rfl e3 (x3.cell 0) (x3.cell 1)) ?_
    refine seq_skipD rfl rfl rfl (run_stR rfl ((ev_ne (by decide)).trans e2) (ev_same (by first | (rw [hz]; decide) | (simp only [size_put, hz]; decide))) x2) ?_
    have y2 : RowT ((w11.setCell ⟨b2, 0, none⟩ (.int .i64 ((N : Nat) : Int))).setCell ⟨b2, 1, none⟩ (.slice (some ⟨g, 0, none⟩) N N)) b2 26 [.int .i64 ((N : Nat) : Int), .slice (some ⟨g, 0, none⟩) N N] := (x2.set_ 0 _).set_ 1 _
    replace x1 := (x1.far (p := ⟨b2, 0, none⟩) nx1_2 (.int .i64 ((N : Nat) : Int))).far (p := ⟨b2, 1, none⟩) nx1_2 (.slice (some ⟨g, 0, none⟩) N N)
    replace y := (y.keep (i := 0) x2 (by decide) (.int .i64 ((N : Nat) : Int))).keep (i := 1) (x2.set_ 0 (.int .i64 ((N : Nat) : Int))) (by decide) (.slice (some ⟨g, 0, none⟩) N N)
    replace x3 := (x3.far (p := ⟨b2, 0, none⟩) nx2_3.symm (.int .i64 ((N : Nat) : Int))).far (p := ⟨b2, 1, none⟩) nx2_3.symm (.slice (some ⟨g, 0, none⟩) N N)
    replace hB := (hB.setCell (p := ⟨b2, 0, none⟩) hge2 (.int .i64 ((N : Nat) : Int))).setCell (p := ⟨b2, 1, none⟩) hge2 (.slice (some ⟨g, 0, none⟩) N N)
    have x2 := y2
    clear y2
    generalize ((w11.setCell ⟨b2, 0, none⟩ (.int .i64 ((N : Nat) : Int))).setCell ⟨b2, 1, none⟩ (.slice (some ⟨g, 0, none⟩) N N)) = w23 at x1 x2 y x3 hB ⊢
    replace hS := hB.size
    refine seq_nil ?_
    refine seq_out ((KeepM.refl 6 [] a12).put (by decide)) fun a24 k24 tr => ?_
    clear tr
    replace e1 := k24.ev e1 (by decide)
    replace e2 := k24.ev e2 (by decide)
    replace e3 := k24.ev e3 (by decide)
    replace e4 := k24.ev e4 (by decide)
    replace hz := k24.size.trans hz
    replace hd := k24.defers.trans hd
    refine wp_ret ?_
    have hu := turn_lt r.rows (by rw [hlr]; exact h64)
    rw [show turnR r.rows = (List.range N).map (tcol r.rows N) by unfold turnR; rw [hlr]] at hu ⊢
    exact post_cell rfl hd e2 x2 (fin_R y (by simp) hu hB)
set_option maxRecDepth 100000 in
theorem rTurn_bad (r : RA) (w0 : World) (hT : Tab w0) (hr : r.good w0) (hsr : Short r.pr) (ho : r.ok = false) :
    Calls Tryd.prog 42 #[r.val] w0 (RetR w0 PR.zero) := by
  have hrv : r.val = (.agg #[.int .i64 r.n, .slice r.A r.rows.length r.cap]) := rfl
  rw [hrv]
  refine calls_of_wp Tryd.func42 rfl ?_
  obtain ⟨hz, e0⟩ := start_act1 49 ((.agg #[.int .i64 r.n, .slice r.A r.rows.length r.cap])) (by decide)
  have hd : ({ tmps := #[(.agg #[.int .i64 r.n, .slice r.A r.rows.length r.cap])] ++ Array.replicate (49 - 1) undef, defers := [] } : Act).defers = [] := rfl
  rw [show Tryd.f42.ntmps - (#[(.agg #[.int .i64 r.n, .slice r.A r.rows.length r.cap])] : Array Value).size = 49 - 1 from rfl]
  generalize ({ tmps := #[(.agg #[.int .i64 r.n, .slice r.A r.rows.length r.cap])] ++ Array.replicate (49 - 1) undef, defers := [] } : Act) = a0 at hz e0 hd ⊢
  have hB : Below w0.heap.size w0 w0 := Below.refl _ _
  have hS := hB.size
  refine wp_seq ?_
  refine seq_startL (l := [0, 1]) (by kernel_rfl) ?_
  refine seq_valD 1 rfl rfl rfl (run_boxC rfl e0) ?_
  have x1 := RowT.new w0 26 [.int .i64 r.n, .slice r.A r.rows.length r.cap]
  replace hB := hB.al (o := .cells ([.int .i64 r.n, .slice r.A r.rows.length r.cap] : List Value).toArray 26)
  change wpOps _ _ _ _ _ (w0.alloc (.cells ([.int .i64 r.n, .slice r.A r.rows.length r.cap] : List Value).toArray 26))
  generalize (w0.alloc (.cells ([.int .i64 r.n, .slice r.A r.rows.length r.cap] : List Value).toArray 26)) = w1 at x1 hB ⊢
  generalize hbq1 : w0.heap.size = b1 at x1 ⊢
  have hge1 : w0.heap.size ≤ b1 := by rw [← hbq1]; exact hS
  clear hbq1
  have hS := hB.size
  refine seq_valD 2 rfl rfl rfl (run_allocR rfl rfl) ?_
  have nx1_2 : b1 ≠ w1.heap.size := Nat.ne_of_lt x1.lt
  have x2 := RowT.new w1 26 [.int .i64 0, .slice none 0 0]
  replace x1 := x1.alloc (.cells ([.int .i64 0, .slice none 0 0] : List Value).toArray 26)
  replace hB := hB.al (o := .cells ([.int .i64 0, .slice none 0 0] : List Value).toArray 26)
  change wpOps _ _ _ _ _ (w1.alloc (.cells ([.int .i64 0, .slice none 0 0] : List Value).toArray 26))
  generalize (w1.alloc (.cells ([.int .i64 0, .slice none 0 0] : List Value).toArray 26)) = w2 at x1 x2 hB ⊢
  generalize hbq2 : w1.heap.size = b2 at x2 nx1_2 ⊢
  have hge2 : w0.heap.size ≤ b2 := by rw [← hbq2]; exact hS
  clear hbq2
  have hS := hB.size
  refine seq_nil ?_
  refine seq_out (((KeepM.refl 6 [1, 2] a0).put (by decide)).put (by decide)) fun a3 k3 tr => ?_
  have f1 := tr 1 (.pointer (some ⟨b1, 0, none⟩)) ((ev_ne (by decide)).trans (ev_same (by first | (rw [hz]; decide) | (simp only [size_put, hz]; decide))))
  have f2 := tr 2 (.pointer (some ⟨b2, 0, none⟩)) (ev_same (by first | (rw [hz]; decide) | (simp only [size_put, hz]; decide)))
  clear tr
  replace e0 := k3.ev e0 (by decide)
  replace hz := k3.size.trans hz
  replace hd := k3.defers.trans hd
  have e1 := f1
  clear f1
  have e2 := f2
  clear f2
  refine wp_seq ?_
  refine wp_seq ?_
  refine seq_startL (l := [0, 1, 2]) (by kernel_rfl) ?_
  refine seq_valD 6 (v := (.agg #[.int .i64 r.n, .slice r.A r.rows.length r.cap])) rfl rfl rfl (run_ldR rfl e1 (x1.cell 0) (x1.cell 1)) ?_
  refine seq_callD 7 rfl rfl rfl en_rCheck rfl (args_one (ev_same (by first | (rw [hz]; decide) | (simp only [size_put, hz]; decide)))) ((hrv ▸ C_rCheck r w2 (hT.on hB) (hr.on hB) hsr).mono ?_)
  rintro e w4 ⟨rfl, hb4⟩
  refine ⟨_, rfl, ?_⟩
  replace x1 := x1.below hb4 x1.lt
  replace x2 := x2.below hb4 x2.lt
  replace hB := Below.next hB hb4
  replace hS := hB.size
  refine seq_valD 8 (v := (.bool true)) rfl rfl rfl ((run_neE rfl (ev_same (by first | (rw [hz]; decide) | (simp only [size_put, hz]; decide))) rfl).trans (okB (c := true) (by rw [chk_not ho]; rfl))) ?_
  refine seq_nil ?_
  refine seq_out ((((KeepM.refl 6 [] a3).put (by decide)).put (by decide)).put (by decide)) fun a5 k5 tr => ?_
  have f8 := tr 8 (.bool true) (ev_same (by first | (rw [hz]; decide) | (simp only [size_put, hz]; decide)))
  clear tr
  replace e1 := k5.ev e1 (by decide)
  replace e2 := k5.ev e2 (by decide)
  replace hz := k5.size.trans hz
  replace hd := k5.defers.trans hd
  have e8 := f8
  clear f8
  refine wp_cond_true e8 ?_
  refine wp_seq ?_
  refine seq_startL (l := [0, 1]) (by kernel_rfl) ?_
  refine seq_valD 9 (v := (.agg #[.int .i64 0, .slice none 0 0])) rfl rfl rfl (run_rel0 rfl) ?_
  refine seq_skipD rfl rfl rfl (run_stR rfl ((ev_ne (by decide)).trans e2) (ev_same (by first | (rw [hz]; decide) | (simp only [size_put, hz]; decide))) x2) ?_
  have y2 : RowT ((w4.setCell ⟨b2, 0, none⟩ (.int .i64 0)).setCell ⟨b2, 1, none⟩ (.slice none 0 0)) b2 26 [.int .i64 0, .slice none 0 0] := (x2.set_ 0 _).set_ 1 _
  replace x1 := (x1.far (p := ⟨b2, 0, none⟩) nx1_2 (.int .i64 0)).far (p := ⟨b2, 1, none⟩) nx1_2 (.slice none 0 0)
  replace hB := (hB.setCell (p := ⟨b2, 0, none⟩) hge2 (.int .i64 0)).setCell (p := ⟨b2, 1, none⟩) hge2 (.slice none 0 0)
  have x2 := y2
  clear y2
  generalize ((w4.setCell ⟨b2, 0, none⟩ (.int .i64 0)).setCell ⟨b2, 1, none⟩ (.slice none 0 0)) = w6 at x1 x2 hB ⊢
  replace hS := hB.size
  refine seq_nil ?_
  refine seq_out ((KeepM.refl 6 [] a5).put (by decide)) fun a7 k7 tr => ?_
  clear tr
  replace e1 := k7.ev e1 (by decide)
  replace e2 := k7.ev e2 (by decide)
  replace hz := k7.size.trans hz
  replace hd := k7.defers.trans hd
  refine wp_ret ?_
  exact post_cell rfl hd e2 x2 (fin_Z hB)
theorem en_rTurn : Enters Tryd.prog 42 := enters_of Tryd.func42 (by kernel_rfl) rfl
theorem C_rTurn : CallRR 42 Pturn := fun r w hT hr hsr => by
  unfold Pturn
  cases ho : r.ok with
  | false => rw [if_neg (fun e => by rw [show r.pr.ok = r.ok from rfl, ho] at e; cases e)]; exact rTurn_bad r w hT hr hsr ho
  | true =>
    obtain ⟨h1, h2, _⟩ := ok_rows (show r.pr.ok = true from ho)
    rw [if_pos (show r.pr.ok = true from ho), show r.pr.n = ((r.rows.length : Nat) : Int) from h1]
    exact rTurn_ok r r.rows.length w hT hr hsr ho h1 rfl h2
end Go.Proofs.YtigdecmfieaacaaDoor
