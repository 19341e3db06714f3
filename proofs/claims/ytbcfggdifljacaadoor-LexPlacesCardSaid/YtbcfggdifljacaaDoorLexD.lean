/-
  The document's answers for layer 2: number.
-/
import Derived.Test.YtbcfggdifljacaaDoorLexC
import Derived.Test.YtbcfggdifljacaaDoorBits
namespace Go.Proofs.YtbcfggdifljacaaDoor
open Go Go.RowKit

theorem run_mulU {o : Oper} {ρ : Operand → Value} {w : World} {x y : Operand} {i j : Nat} {t : TypeId} (hop : o.op = .binOp .mul 74 x y t) (hx : ρ x = .int .u64 (i : Nat)) (hy : ρ y = .int .u64 (j : Nat)) (h : i * j < 18446744073709551616) : (execOp ρ o).run Tryd.prog w = .ok (.value (.int .u64 ((i * j : Nat) : Int))) w := by
  have e : IntKind.u64.wrap ((i : Int) * (j : Int)) = ((i * j : Nat) : Int) := by rw [← Int.natCast_mul, wrap_u64_nat _ h]
  simp [execOp, hop, hx, hy, go_sem, e]
theorem run_addU {o : Oper} {ρ : Operand → Value} {w : World} {x y : Operand} {i j : Nat} {t : TypeId} (hop : o.op = .binOp .add 74 x y t) (hx : ρ x = .int .u64 (i : Nat)) (hy : ρ y = .int .u64 (j : Nat)) (h : i + j < 18446744073709551616) : (execOp ρ o).run Tryd.prog w = .ok (.value (.int .u64 ((i + j : Nat) : Int))) w := by
  have e : IntKind.u64.wrap ((i : Int) + (j : Int)) = ((i + j : Nat) : Int) := by rw [← Int.natCast_add, wrap_u64_nat _ h]
  simp [execOp, hop, hx, hy, go_sem, e]
theorem run_sub48 {o : Oper} {ρ : Operand → Value} {w : World} {x y : Operand} {c : UInt8} {t : TypeId} (hop : o.op = .binOp .sub 5 x y t) (hx : ρ x = .int .u8 ((c.toNat : Nat) : Int)) (hy : ρ y = .int .u8 48) (h : 48 ≤ c.toNat) : (execOp ρ o).run Tryd.prog w = .ok (.value (.int .u8 (((c.toNat - 48) : Nat) : Int))) w := by
  have hc := c.toNat_lt
  have e : IntKind.u8.wrap (((c.toNat : Nat) : Int) - 48) = (((c.toNat - 48) : Nat) : Int) := by rw [IntKind.wrap_u8]; omega
  simp [execOp, hop, hx, hy, go_sem, e]
theorem run_cv8 {o : Oper} {ρ : Operand → Value} {w : World} {x : Operand} {n : Nat} (hop : o.op = .convert 5 74 x) (hx : ρ x = .int .u8 ((n : Nat) : Int)) (h : n < 256) : (execOp ρ o).run Tryd.prog w = .ok (.value (.int .u64 ((n : Nat) : Int))) w := by
  have e : IntKind.u64.wrap (n : Int) = (n : Int) := wrap_u64_nat n (by omega)
  simp [execOp, hop, hx, go_sem, e]
theorem run_cvI64 {o : Oper} {ρ : Operand → Value} {w : World} {x : Operand} {n : Nat} (hop : o.op = .convert 74 2 x) (hx : ρ x = .int .u64 ((n : Nat) : Int)) : (execOp ρ o).run Tryd.prog w = .ok (.value (.int .i64 (IntKind.i64.wrap ((n : Nat) : Int)))) w := by
  simp [execOp, hop, hx, go_sem]
theorem run_ltU {o : Oper} {ρ : Operand → Value} {w : World} {x y : Operand} {i j : Int} {t : TypeId} (hop : o.op = .binOp .lss 74 x y t) (hx : ρ x = .int .u64 i) (hy : ρ y = .int .u64 j) : (execOp ρ o).run Tryd.prog w = .ok (.value (.bool (decide (i < j)))) w := by
  simp [execOp, hop, hx, hy, go_sem]
/-- The number of the first i digits. -/
def numTo (l : List UInt8) (i : Nat) : Nat := (l.take i).foldl (fun n c => n * 10 + (c.toNat - 48)) 0
theorem numTo_succ (l : List UInt8) (i : Nat) (c : UInt8) (h : l[i]? = some c) : numTo l (i + 1) = numTo l i * 10 + (c.toNat - 48) := by
  unfold numTo; rw [List.take_add_one, h]; simp [List.foldl_append]
theorem numTo_lt {l : List UInt8} (h : ∀ c ∈ l, 48 ≤ c.toNat ∧ c.toNat ≤ 57) (i : Nat) : numTo l i < 10 ^ i := by
  induction i with
  | zero => simp [numTo]
  | succ i ih =>
    cases e : l[i]? with
    | none =>
      have e2 : numTo l (i + 1) = numTo l i := by unfold numTo; rw [List.take_add_one, e]; simp
      rw [e2, Nat.pow_succ]; omega
    | some c =>
      have := h c (List.mem_of_getElem? e)
      rw [numTo_succ l i c e, Nat.pow_succ]; omega
set_option maxRecDepth 100000 in
set_option maxHeartbeats 4000000 in
theorem ref_number_zero (l : List UInt8) (w0 : World) {c0 : UInt8} (hc0 : l[0]? = some c0) (hl : 1 < l.length) (h0 : (((c0.toNat : Nat) : Int) == 48) = true) : Calls Tryd.prog 43 #[Str l] w0 (Ret w0 (.tuple #[.int .i64 0, .bool false])) := by
  refine calls_of_wp Tryd.func43 rfl ?_
  obtain ⟨hz, e0⟩ := start_act1 37 ((Str l)) (by decide)
  have hd : ({ tmps := #[(Str l)] ++ Array.replicate (37 - 1) undef, defers := [] } : Act).defers = [] := rfl
  rw [show Tryd.f43.ntmps - (#[(Str l)] : Array Value).size = 37 - 1 from rfl]
  generalize ({ tmps := #[(Str l)] ++ Array.replicate (37 - 1) undef, defers := [] } : Act) = a0 at hz e0 hd ⊢
  have hB : Below w0.heap.size w0 w0 := Below.refl _ _
  have hS := hB.size
  refine wp_seq ?_
  refine seq_startL (l := [0, 1]) (by kernel_rfl) ?_
  refine seq_assign 2 (v := (.int .i64 0)) rfl rfl rfl rfl rfl ?_
  refine seq_assign 3 (v := (.bool false)) rfl rfl rfl rfl rfl ?_
  refine seq_nil ?_
  refine seq_out (((KeepM.refl 6 [2, 3] a0).put (by decide)).put (by decide)) fun a1 k1 tr => ?_
  have f2 := tr 2 (.int .i64 0) ((ev_ne (by decide)).trans (ev_same (by first | (rw [hz]; decide) | (simp only [size_put, hz]; decide))))
  have f3 := tr 3 (.bool false) (ev_same (by first | (rw [hz]; decide) | (simp only [size_put, hz]; decide)))
  clear tr
  replace e0 := k1.ev e0 (by decide)
  replace hz := k1.size.trans hz
  replace hd := k1.defers.trans hd
  have e2 := f2
  clear f2
  have e3 := f3
  clear f3
  refine wp_seq ?_
  refine wp_seq ?_
  have hlast : lastOk (regOps Tryd.f43 1) 13 = true := by kernel_rfl
  refine region_ws (n := 13) [some (Str l), some (.int .i64 ((l.length : Nat) : Int)), some (.bool true), some (.bool true), some (Str l), some (.int .u8 ((c0.toNat : Nat) : Int)), some (.bool true), some (.bool true), some (.bool true), some undef, some undef, some undef, some (.bool true)] 13 w0 w0 (by rw [hz]; kernel_rfl) (by kernel_rfl) (by kernel_rfl) (by kernel_rfl) ?_ fun L a2 w2 hL st => ?_
  · refine ⟨⟨⟨⟨⟨⟨⟨⟨⟨⟨⟨⟨⟨trivial, ?_⟩, ?_⟩, ?_⟩, ?_⟩, ?_⟩, ?_⟩, ?_⟩, ?_⟩, ?_⟩, ?_⟩, ?_⟩, ?_⟩, ?_⟩
    · intro oo aa ww LL hho hLL haft st; obtain rfl := Option.some.inj hho; exact payW_move st hlast hLL (by decide) (want_none rfl) rfl (st.outV (by kernel_rfl) e0) rfl
    · intro oo aa ww LL hho hLL haft st; obtain rfl := Option.some.inj hho; exact payW st hlast hLL (by decide) (want_none rfl) (run_lenS rfl (st.argV (j := 0) (aft_of haft (by kernel_rfl)) rfl rfl)) rfl
    · intro oo aa ww LL hho hLL haft st; obtain rfl := Option.some.inj hho; exact payW st hlast hLL (by decide) (want_none rfl) ((run_gtI rfl (st.argV (j := 1) (aft_of haft (by kernel_rfl)) rfl rfl) rfl).trans (okB (c := true) (decide_eq_true (by omega)))) rfl
    · intro oo aa ww LL hho hLL haft st; obtain rfl := Option.some.inj hho; exact payW_move st hlast hLL (by decide) (want_none rfl) rfl (st.argV (j := 2) (aft_of haft (by kernel_rfl)) rfl rfl) rfl
    · intro oo aa ww LL hho hLL haft st; obtain rfl := Option.some.inj hho; exact payW_move st hlast hLL (by decide) (st.wantV haft rfl (by kernel_rfl) rfl) rfl (st.outV (by kernel_rfl) e0) rfl
    · intro oo aa ww LL hho hLL haft st; obtain rfl := Option.some.inj hho; exact payW st hlast hLL (by decide) (st.wantV haft rfl (by kernel_rfl) rfl) (run_idxS (k := 0) rfl (st.argV (j := 4) (aft_of haft (by kernel_rfl)) rfl rfl) rfl hc0) rfl
    · intro oo aa ww LL hho hLL haft st; obtain rfl := Option.some.inj hho; exact payW st hlast hLL (by decide) (st.wantV haft rfl (by kernel_rfl) rfl) ((run_eq8 rfl (st.argV (j := 5) (aft_of haft (by kernel_rfl)) rfl rfl) rfl).trans (okB (c := true) h0)) rfl
    · intro oo aa ww LL hho hLL haft st; obtain rfl := Option.some.inj hho; exact payW_pick st hlast hLL (by decide) (want_none rfl) rfl (st.argV (j := 3) (aft_of haft (by kernel_rfl)) rfl rfl) (st.argV (j := 6) (aft_of haft (by kernel_rfl)) rfl rfl) rfl
    · intro oo aa ww LL hho hLL haft st; obtain rfl := Option.some.inj hho; exact payW_move st hlast hLL (by decide) (want_none rfl) rfl (st.argV (j := 7) (aft_of haft (by kernel_rfl)) rfl rfl) rfl
    · intro oo aa ww LL hho hLL haft st; obtain rfl := Option.some.inj hho; exact st.skipW hlast hLL (by decide) haft rfl (by kernel_rfl) rfl (.inl rfl) rfl
    · intro oo aa ww LL hho hLL haft st; obtain rfl := Option.some.inj hho; exact st.skipW hlast hLL (by decide) haft rfl (by kernel_rfl) rfl (.inl rfl) rfl
    · intro oo aa ww LL hho hLL haft st; obtain rfl := Option.some.inj hho; exact st.skipW hlast hLL (by decide) haft rfl (by kernel_rfl) rfl (.inl rfl) rfl
    · intro oo aa ww LL hho hLL haft st; obtain rfl := Option.some.inj hho; exact payW_pick st hlast hLL (by decide) (want_none rfl) rfl (st.argV (j := 8) (aft_of haft (by kernel_rfl)) rfl rfl) rfl rfl
  clear hlast
  rw [st.end1 (Nat.le_of_eq (by kernel_rfl))]
  have k2 : KeepM 6 [] a1 a2 := st.keepM (by kernel_rfl)
  have e18 : a2.eval (.tmp 18) = (.bool true) := st.argV (j := 12) (hL 12 (by omega)) rfl rfl
  clear st hL L
  replace e0 := k2.ev e0 (by decide)
  replace e2 := k2.ev e2 (by decide)
  replace e3 := k2.ev e3 (by decide)
  replace hz := k2.size.trans hz
  replace hd := k2.defers.trans hd
  refine wp_cond_true e18 ?_
  refine wp_seq ?_
  refine seq_startL (l := [0, 1]) (by kernel_rfl) ?_
  refine seq_assign 2 (v := (.int .i64 0)) rfl rfl rfl rfl rfl ?_
  refine seq_assign 3 (v := (.bool false)) rfl rfl rfl rfl rfl ?_
  refine seq_nil ?_
  refine seq_out (((KeepM.refl 6 [2, 3] a2).put (by decide)).put (by decide)) fun a3 k3 tr => ?_
  have f2 := tr 2 (.int .i64 0) ((ev_ne (by decide)).trans (ev_same (by first | (rw [hz]; decide) | (simp only [size_put, hz]; decide))))
  have f3 := tr 3 (.bool false) (ev_same (by first | (rw [hz]; decide) | (simp only [size_put, hz]; decide)))
  clear tr
  replace e0 := k3.ev e0 (by decide)
  replace hz := k3.size.trans hz
  replace hd := k3.defers.trans hd
  have e2 := f2
  clear f2
  have e3 := f3
  clear f3
  refine wp_ret ?_
  exact post_two rfl hd e2 e3 ⟨rfl, hB⟩
set_option maxRecDepth 100000 in
set_option maxHeartbeats 4000000 in
theorem ref_number_long1 (l : List UInt8) (w0 : World) {c0 : UInt8} (hc0 : l[0]? = some c0) (hl : 19 < l.length) (h0 : (((c0.toNat : Nat) : Int) == 48) = false) : Calls Tryd.prog 43 #[Str l] w0 (Ret w0 (.tuple #[.int .i64 0, .bool false])) := by
  refine calls_of_wp Tryd.func43 rfl ?_
  obtain ⟨hz, e0⟩ := start_act1 37 ((Str l)) (by decide)
  have hd : ({ tmps := #[(Str l)] ++ Array.replicate (37 - 1) undef, defers := [] } : Act).defers = [] := rfl
  rw [show Tryd.f43.ntmps - (#[(Str l)] : Array Value).size = 37 - 1 from rfl]
  generalize ({ tmps := #[(Str l)] ++ Array.replicate (37 - 1) undef, defers := [] } : Act) = a0 at hz e0 hd ⊢
  have hB : Below w0.heap.size w0 w0 := Below.refl _ _
  have hS := hB.size
  refine wp_seq ?_
  refine seq_startL (l := [0, 1]) (by kernel_rfl) ?_
  refine seq_assign 2 (v := (.int .i64 0)) rfl rfl rfl rfl rfl ?_
  refine seq_assign 3 (v := (.bool false)) rfl rfl rfl rfl rfl ?_
  refine seq_nil ?_
  refine seq_out (((KeepM.refl 6 [2, 3] a0).put (by decide)).put (by decide)) fun a1 k1 tr => ?_
  have f2 := tr 2 (.int .i64 0) ((ev_ne (by decide)).trans (ev_same (by first | (rw [hz]; decide) | (simp only [size_put, hz]; decide))))
  have f3 := tr 3 (.bool false) (ev_same (by first | (rw [hz]; decide) | (simp only [size_put, hz]; decide)))
  clear tr
  replace e0 := k1.ev e0 (by decide)
  replace hz := k1.size.trans hz
  replace hd := k1.defers.trans hd
  have e2 := f2
  clear f2
  have e3 := f3
  clear f3
  refine wp_seq ?_
  refine wp_seq ?_
  have hlast : lastOk (regOps Tryd.f43 1) 13 = true := by kernel_rfl
  refine region_ws (n := 13) [some (Str l), some (.int .i64 ((l.length : Nat) : Int)), some (.bool true), some (.bool true), some (Str l), some (.int .u8 ((c0.toNat : Nat) : Int)), some (.bool false), some (.bool false), some (.bool false), some (Str l), some (.int .i64 ((l.length : Nat) : Int)), some (.bool true), some (.bool true)] 13 w0 w0 (by rw [hz]; kernel_rfl) (by kernel_rfl) (by kernel_rfl) (by kernel_rfl) ?_ fun L a2 w2 hL st => ?_
  · refine ⟨⟨⟨⟨⟨⟨⟨⟨⟨⟨⟨⟨⟨trivial, ?_⟩, ?_⟩, ?_⟩, ?_⟩, ?_⟩, ?_⟩, ?_⟩, ?_⟩, ?_⟩, ?_⟩, ?_⟩, ?_⟩, ?_⟩
    · intro oo aa ww LL hho hLL haft st; obtain rfl := Option.some.inj hho; exact payW_move st hlast hLL (by decide) (want_none rfl) rfl (st.outV (by kernel_rfl) e0) rfl
    · intro oo aa ww LL hho hLL haft st; obtain rfl := Option.some.inj hho; exact payW st hlast hLL (by decide) (want_none rfl) (run_lenS rfl (st.argV (j := 0) (aft_of haft (by kernel_rfl)) rfl rfl)) rfl
    · intro oo aa ww LL hho hLL haft st; obtain rfl := Option.some.inj hho; exact payW st hlast hLL (by decide) (want_none rfl) ((run_gtI rfl (st.argV (j := 1) (aft_of haft (by kernel_rfl)) rfl rfl) rfl).trans (okB (c := true) (decide_eq_true (by omega)))) rfl
    · intro oo aa ww LL hho hLL haft st; obtain rfl := Option.some.inj hho; exact payW_move st hlast hLL (by decide) (want_none rfl) rfl (st.argV (j := 2) (aft_of haft (by kernel_rfl)) rfl rfl) rfl
    · intro oo aa ww LL hho hLL haft st; obtain rfl := Option.some.inj hho; exact payW_move st hlast hLL (by decide) (st.wantV haft rfl (by kernel_rfl) rfl) rfl (st.outV (by kernel_rfl) e0) rfl
    · intro oo aa ww LL hho hLL haft st; obtain rfl := Option.some.inj hho; exact payW st hlast hLL (by decide) (st.wantV haft rfl (by kernel_rfl) rfl) (run_idxS (k := 0) rfl (st.argV (j := 4) (aft_of haft (by kernel_rfl)) rfl rfl) rfl hc0) rfl
    · intro oo aa ww LL hho hLL haft st; obtain rfl := Option.some.inj hho; exact payW st hlast hLL (by decide) (st.wantV haft rfl (by kernel_rfl) rfl) ((run_eq8 rfl (st.argV (j := 5) (aft_of haft (by kernel_rfl)) rfl rfl) rfl).trans (okB (c := false) h0)) rfl
    · intro oo aa ww LL hho hLL haft st; obtain rfl := Option.some.inj hho; exact payW_pick st hlast hLL (by decide) (want_none rfl) rfl (st.argV (j := 3) (aft_of haft (by kernel_rfl)) rfl rfl) (st.argV (j := 6) (aft_of haft (by kernel_rfl)) rfl rfl) rfl
    · intro oo aa ww LL hho hLL haft st; obtain rfl := Option.some.inj hho; exact payW_move st hlast hLL (by decide) (want_none rfl) rfl (st.argV (j := 7) (aft_of haft (by kernel_rfl)) rfl rfl) rfl
    · intro oo aa ww LL hho hLL haft st; obtain rfl := Option.some.inj hho; exact payW_move st hlast hLL (by decide) (st.wantV haft rfl (by kernel_rfl) rfl) rfl (st.outV (by kernel_rfl) e0) rfl
    · intro oo aa ww LL hho hLL haft st; obtain rfl := Option.some.inj hho; exact payW st hlast hLL (by decide) (st.wantV haft rfl (by kernel_rfl) rfl) (run_lenS rfl (st.argV (j := 9) (aft_of haft (by kernel_rfl)) rfl rfl)) rfl
    · intro oo aa ww LL hho hLL haft st; obtain rfl := Option.some.inj hho; exact payW st hlast hLL (by decide) (st.wantV haft rfl (by kernel_rfl) rfl) ((run_gtI rfl (st.argV (j := 10) (aft_of haft (by kernel_rfl)) rfl rfl) rfl).trans (okB (c := true) (decide_eq_true (by omega)))) rfl
    · intro oo aa ww LL hho hLL haft st; obtain rfl := Option.some.inj hho; exact payW_pick st hlast hLL (by decide) (want_none rfl) rfl (st.argV (j := 8) (aft_of haft (by kernel_rfl)) rfl rfl) (st.argV (j := 11) (aft_of haft (by kernel_rfl)) rfl rfl) rfl
  clear hlast
  rw [st.end1 (Nat.le_of_eq (by kernel_rfl))]
  have k2 : KeepM 6 [] a1 a2 := st.keepM (by kernel_rfl)
  have e18 : a2.eval (.tmp 18) = (.bool true) := st.argV (j := 12) (hL 12 (by omega)) rfl rfl
  clear st hL L
  replace e0 := k2.ev e0 (by decide)
  replace e2 := k2.ev e2 (by decide)
  replace e3 := k2.ev e3 (by decide)
  replace hz := k2.size.trans hz
  replace hd := k2.defers.trans hd
  refine wp_cond_true e18 ?_
  refine wp_seq ?_
  refine seq_startL (l := [0, 1]) (by kernel_rfl) ?_
  refine seq_assign 2 (v := (.int .i64 0)) rfl rfl rfl rfl rfl ?_
  refine seq_assign 3 (v := (.bool false)) rfl rfl rfl rfl rfl ?_
  refine seq_nil ?_
  refine seq_out (((KeepM.refl 6 [2, 3] a2).put (by decide)).put (by decide)) fun a3 k3 tr => ?_
  have f2 := tr 2 (.int .i64 0) ((ev_ne (by decide)).trans (ev_same (by first | (rw [hz]; decide) | (simp only [size_put, hz]; decide))))
  have f3 := tr 3 (.bool false) (ev_same (by first | (rw [hz]; decide) | (simp only [size_put, hz]; decide)))
  clear tr
  replace e0 := k3.ev e0 (by decide)
  replace hz := k3.size.trans hz
  replace hd := k3.defers.trans hd
  have e2 := f2
  clear f2
  have e3 := f3
  clear f3
  refine wp_ret ?_
  exact post_two rfl hd e2 e3 ⟨rfl, hB⟩
set_option maxRecDepth 100000 in
set_option maxHeartbeats 4000000 in
theorem ref_number_ok1 (l : List UInt8) (w0 : World) (hdig : ∀ c ∈ l, 48 ≤ c.toNat ∧ c.toNat ≤ 57) {c0 : UInt8} (hc0 : l[0]? = some c0) (hl : 1 < l.length) (hl2 : l.length ≤ 19) (h0 : (((c0.toNat : Nat) : Int) == 48) = false) : Calls Tryd.prog 43 #[Str l] w0 (Ret w0 (.tuple #[.int .i64 (IntKind.i64.wrap ((numTo l l.length : Nat) : Int)), .bool (decide (numTo l l.length < 9223372036854775808))])) := by
  refine calls_of_wp Tryd.func43 rfl ?_
  obtain ⟨hz, e0⟩ := start_act1 37 ((Str l)) (by decide)
  have hd : ({ tmps := #[(Str l)] ++ Array.replicate (37 - 1) undef, defers := [] } : Act).defers = [] := rfl
  rw [show Tryd.f43.ntmps - (#[(Str l)] : Array Value).size = 37 - 1 from rfl]
  generalize ({ tmps := #[(Str l)] ++ Array.replicate (37 - 1) undef, defers := [] } : Act) = a0 at hz e0 hd ⊢
  have hB : Below w0.heap.size w0 w0 := Below.refl _ _
  have hS := hB.size
  refine wp_seq ?_
  refine seq_startL (l := [0, 1]) (by kernel_rfl) ?_
  refine seq_assign 2 (v := (.int .i64 0)) rfl rfl rfl rfl rfl ?_
  refine seq_assign 3 (v := (.bool false)) rfl rfl rfl rfl rfl ?_
  refine seq_nil ?_
  refine seq_out (((KeepM.refl 6 [2, 3] a0).put (by decide)).put (by decide)) fun a1 k1 tr => ?_
  have f2 := tr 2 (.int .i64 0) ((ev_ne (by decide)).trans (ev_same (by first | (rw [hz]; decide) | (simp only [size_put, hz]; decide))))
  have f3 := tr 3 (.bool false) (ev_same (by first | (rw [hz]; decide) | (simp only [size_put, hz]; decide)))
  clear tr
  replace e0 := k1.ev e0 (by decide)
  replace hz := k1.size.trans hz
  replace hd := k1.defers.trans hd
  have e2 := f2
  clear f2
  have e3 := f3
  clear f3
  refine wp_seq ?_
  refine wp_seq ?_
  have hlast : lastOk (regOps Tryd.f43 1) 13 = true := by kernel_rfl
  refine region_ws (n := 13) [some (Str l), some (.int .i64 ((l.length : Nat) : Int)), some (.bool true), some (.bool true), some (Str l), some (.int .u8 ((c0.toNat : Nat) : Int)), some (.bool false), some (.bool false), some (.bool false), some (Str l), some (.int .i64 ((l.length : Nat) : Int)), some (.bool false), some (.bool false)] 13 w0 w0 (by rw [hz]; kernel_rfl) (by kernel_rfl) (by kernel_rfl) (by kernel_rfl) ?_ fun L a2 w2 hL st => ?_
  · refine ⟨⟨⟨⟨⟨⟨⟨⟨⟨⟨⟨⟨⟨trivial, ?_⟩, ?_⟩, ?_⟩, ?_⟩, ?_⟩, ?_⟩, ?_⟩, ?_⟩, ?_⟩, ?_⟩, ?_⟩, ?_⟩, ?_⟩
    · intro oo aa ww LL hho hLL haft st; obtain rfl := Option.some.inj hho; exact payW_move st hlast hLL (by decide) (want_none rfl) rfl (st.outV (by kernel_rfl) e0) rfl
    · intro oo aa ww LL hho hLL haft st; obtain rfl := Option.some.inj hho; exact payW st hlast hLL (by decide) (want_none rfl) (run_lenS rfl (st.argV (j := 0) (aft_of haft (by kernel_rfl)) rfl rfl)) rfl
    · intro oo aa ww LL hho hLL haft st; obtain rfl := Option.some.inj hho; exact payW st hlast hLL (by decide) (want_none rfl) ((run_gtI rfl (st.argV (j := 1) (aft_of haft (by kernel_rfl)) rfl rfl) rfl).trans (okB (c := true) (decide_eq_true (by omega)))) rfl
    · intro oo aa ww LL hho hLL haft st; obtain rfl := Option.some.inj hho; exact payW_move st hlast hLL (by decide) (want_none rfl) rfl (st.argV (j := 2) (aft_of haft (by kernel_rfl)) rfl rfl) rfl
    · intro oo aa ww LL hho hLL haft st; obtain rfl := Option.some.inj hho; exact payW_move st hlast hLL (by decide) (st.wantV haft rfl (by kernel_rfl) rfl) rfl (st.outV (by kernel_rfl) e0) rfl
    · intro oo aa ww LL hho hLL haft st; obtain rfl := Option.some.inj hho; exact payW st hlast hLL (by decide) (st.wantV haft rfl (by kernel_rfl) rfl) (run_idxS (k := 0) rfl (st.argV (j := 4) (aft_of haft (by kernel_rfl)) rfl rfl) rfl hc0) rfl
    · intro oo aa ww LL hho hLL haft st; obtain rfl := Option.some.inj hho; exact payW st hlast hLL (by decide) (st.wantV haft rfl (by kernel_rfl) rfl) ((run_eq8 rfl (st.argV (j := 5) (aft_of haft (by kernel_rfl)) rfl rfl) rfl).trans (okB (c := false) h0)) rfl
    · intro oo aa ww LL hho hLL haft st; obtain rfl := Option.some.inj hho; exact payW_pick st hlast hLL (by decide) (want_none rfl) rfl (st.argV (j := 3) (aft_of haft (by kernel_rfl)) rfl rfl) (st.argV (j := 6) (aft_of haft (by kernel_rfl)) rfl rfl) rfl
    · intro oo aa ww LL hho hLL haft st; obtain rfl := Option.some.inj hho; exact payW_move st hlast hLL (by decide) (want_none rfl) rfl (st.argV (j := 7) (aft_of haft (by kernel_rfl)) rfl rfl) rfl
    · intro oo aa ww LL hho hLL haft st; obtain rfl := Option.some.inj hho; exact payW_move st hlast hLL (by decide) (st.wantV haft rfl (by kernel_rfl) rfl) rfl (st.outV (by kernel_rfl) e0) rfl
    · intro oo aa ww LL hho hLL haft st; obtain rfl := Option.some.inj hho; exact payW st hlast hLL (by decide) (st.wantV haft rfl (by kernel_rfl) rfl) (run_lenS rfl (st.argV (j := 9) (aft_of haft (by kernel_rfl)) rfl rfl)) rfl
    · intro oo aa ww LL hho hLL haft st; obtain rfl := Option.some.inj hho; exact payW st hlast hLL (by decide) (st.wantV haft rfl (by kernel_rfl) rfl) ((run_gtI rfl (st.argV (j := 10) (aft_of haft (by kernel_rfl)) rfl rfl) rfl).trans (okB (c := false) (decide_eq_false (by omega)))) rfl
    · intro oo aa ww LL hho hLL haft st; obtain rfl := Option.some.inj hho; exact payW_pick st hlast hLL (by decide) (want_none rfl) rfl (st.argV (j := 8) (aft_of haft (by kernel_rfl)) rfl rfl) (st.argV (j := 11) (aft_of haft (by kernel_rfl)) rfl rfl) rfl
  clear hlast
  rw [st.end1 (Nat.le_of_eq (by kernel_rfl))]
  have k2 : KeepM 6 [] a1 a2 := st.keepM (by kernel_rfl)
  have e18 : a2.eval (.tmp 18) = (.bool false) := st.argV (j := 12) (hL 12 (by omega)) rfl rfl
  clear st hL L
  replace e0 := k2.ev e0 (by decide)
  replace e2 := k2.ev e2 (by decide)
  replace e3 := k2.ev e3 (by decide)
  replace hz := k2.size.trans hz
  replace hd := k2.defers.trans hd
  refine wp_cond_false e18 ?_
  refine wp_skip ?_
  refine wp_seq ?_
  refine seq_startL (l := [0]) (by kernel_rfl) ?_
  refine seq_assign 4 (v := (.int .u64 0)) rfl rfl rfl rfl rfl ?_
  refine seq_nil ?_
  refine seq_out ((KeepM.refl 6 [4] a2).put (by decide)) fun a3 k3 tr => ?_
  have f4 := tr 4 (.int .u64 0) (ev_same (by first | (rw [hz]; decide) | (simp only [size_put, hz]; decide)))
  clear tr
  replace e0 := k3.ev e0 (by decide)
  replace e2 := k3.ev e2 (by decide)
  replace e3 := k3.ev e3 (by decide)
  replace hz := k3.size.trans hz
  replace hd := k3.defers.trans hd
  have e4 := f4
  clear f4
  refine wp_seq ?_
  refine wp_seq ?_
  refine seq_startL (l := [0]) (by kernel_rfl) ?_
  refine seq_assign 5 (v := (.int .i64 0)) rfl rfl rfl rfl rfl ?_
  refine seq_nil ?_
  refine seq_out ((KeepM.refl 6 [5] a3).put (by decide)) fun a4 k4 tr => ?_
  have f5 := tr 5 (.int .i64 0) (ev_same (by first | (rw [hz]; decide) | (simp only [size_put, hz]; decide)))
  clear tr
  replace e0 := k4.ev e0 (by decide)
  replace e2 := k4.ev e2 (by decide)
  replace e3 := k4.ev e3 (by decide)
  replace e4 := k4.ev e4 (by decide)
  replace hz := k4.size.trans hz
  replace hd := k4.defers.trans hd
  have e5 := f5
  clear f5
  refine wp_block ?_
  refine wp_loop (fun aq wq => ∃ (i : Nat), (i ≤ l.length) ∧ KeepM 6 [4, 5] a4 aq ∧ aq.eval (.tmp 4) = (.int .u64 (((numTo l i) : Nat) : Int)) ∧ aq.eval (.tmp 5) = (.int .i64 ((i : Nat) : Int)) ∧ Below w0.heap.size w0 wq) (fun aq _ => l.length - (intOf (aq.eval (.tmp 5))).toNat) ⟨0, Nat.zero_le _, KeepM.refl _ _ _, e4, e5, hB⟩ ?_
  rintro a5 w5 ⟨i, hk0, kk0, g4, g5, qB⟩
  replace e0 := kk0.ev e0 (by decide)
  replace e2 := kk0.ev e2 (by decide)
  replace e3 := kk0.ev e3 (by decide)
  replace hz := kk0.size.trans hz
  replace hd := kk0.defers.trans hd
  clear e4 e5  hB hS
  have e4 := g4
  have e5 := g5
  have hB := qB
  have hS := hB.size
  clear  qB
  have e5s := e5
  refine wp_seq ?_
  refine wp_seq ?_
  refine seq_startL (l := [0, 1, 2, 3]) (by kernel_rfl) ?_
  refine seq_move 19 (v := (.int .i64 ((i : Nat) : Int))) rfl rfl rfl rfl e5 ?_
  refine seq_move 20 (v := (Str l)) rfl rfl rfl rfl ((ev_ne (by decide)).trans e0) ?_
  refine seq_valD 21 (v := (.int .i64 ((l.length : Nat) : Int))) rfl rfl rfl (run_lenS rfl (ev_same (by first | (rw [hz]; decide) | (simp only [size_put, hz]; decide)))) ?_
  refine seq_valD 22 (v := (.bool (decide (((i : Nat) : Int) < ((l.length : Nat) : Int))))) rfl rfl rfl (run_ltI rfl ((ev_ne (by decide)).trans ((ev_ne (by decide)).trans (ev_same (by first | (rw [hz]; decide) | (simp only [size_put, hz]; decide))))) (ev_same (by first | (rw [hz]; decide) | (simp only [size_put, hz]; decide)))) ?_
  refine seq_nil ?_
  refine seq_out (((((KeepM.refl 6 [] a5).put (by decide)).put (by decide)).put (by decide)).put (by decide)) fun a6 k6 tr => ?_
  have f22 := tr 22 (.bool (decide (((i : Nat) : Int) < ((l.length : Nat) : Int)))) (ev_same (by first | (rw [hz]; decide) | (simp only [size_put, hz]; decide)))
  clear tr
  replace e0 := k6.ev e0 (by decide)
  replace e2 := k6.ev e2 (by decide)
  replace e3 := k6.ev e3 (by decide)
  replace e4 := k6.ev e4 (by decide)
  replace e5 := k6.ev e5 (by decide)
  replace hz := k6.size.trans hz
  replace hd := k6.defers.trans hd
  replace kk0 := kk0.trans (k6.mono (ys := [4, 5]) (by decide))
  have e22 := f22
  clear f22
  by_cases hlti : i < l.length
  · rw [decide_eq_true (by omega)] at e22
    refine wp_cond_true e22 ?_
    refine wp_skip ?_
    refine wp_seq ?_
    refine wp_block ?_
    obtain ⟨c, hc⟩ : ∃ c, l[i]? = some c := ⟨_, List.getElem?_eq_getElem (by omega)⟩
    obtain ⟨hd1, hd2⟩ := hdig c (List.mem_of_getElem? hc)
    have hnb := numTo_lt hdig i
    have hst := numTo_succ l i c hc
    have hp19 : 10 ^ i ≤ 10 ^ 18 := Nat.pow_le_pow_right (by decide) (by omega)
    refine seq_startL (l := [0, 1, 2, 3, 4, 5, 6, 7, 8]) (by kernel_rfl) ?_
    refine seq_move 25 (v := (.int .u64 (((numTo l i) : Nat) : Int))) rfl rfl rfl rfl e4 ?_
    refine seq_valD 26 (v := (.int .u64 ((((numTo l i) * 10) : Nat) : Int))) rfl rfl rfl (run_mulU rfl (ev_same (by first | (rw [hz]; decide) | (simp only [size_put, hz]; decide))) rfl (by omega)) ?_
    refine seq_move 27 (v := (Str l)) rfl rfl rfl rfl ((ev_ne (by decide)).trans ((ev_ne (by decide)).trans e0)) ?_
    refine seq_move 28 (v := (.int .i64 ((i : Nat) : Int))) rfl rfl rfl rfl ((ev_ne (by decide)).trans ((ev_ne (by decide)).trans ((ev_ne (by decide)).trans e5))) ?_
    refine seq_valD 29 (v := (.int .u8 ((c.toNat : Nat) : Int))) rfl rfl rfl (run_idxS (k := i) rfl ((ev_ne (by decide)).trans (ev_same (by first | (rw [hz]; decide) | (simp only [size_put, hz]; decide)))) (ev_same (by first | (rw [hz]; decide) | (simp only [size_put, hz]; decide))) hc) ?_
    refine seq_valD 30 (v := (.int .u8 (((c.toNat - 48) : Nat) : Int))) rfl rfl rfl (run_sub48 rfl (ev_same (by first | (rw [hz]; decide) | (simp only [size_put, hz]; decide))) rfl hd1) ?_
    refine seq_valD 31 (v := (.int .u64 (((c.toNat - 48) : Nat) : Int))) rfl rfl rfl (run_cv8 rfl (ev_same (by first | (rw [hz]; decide) | (simp only [size_put, hz]; decide))) (by omega)) ?_
    refine seq_valD 32 (v := (.int .u64 (((((numTo l i) * 10) + (c.toNat - 48)) : Nat) : Int))) rfl rfl rfl (run_addU rfl ((ev_ne (by decide)).trans ((ev_ne (by decide)).trans ((ev_ne (by decide)).trans ((ev_ne (by decide)).trans ((ev_ne (by decide)).trans (ev_same (by first | (rw [hz]; decide) | (simp only [size_put, hz]; decide)))))))) (ev_same (by first | (rw [hz]; decide) | (simp only [size_put, hz]; decide))) (by omega)) ?_
    refine seq_assign 4 (v := (.int .u64 (((((numTo l i) * 10) + (c.toNat - 48)) : Nat) : Int))) rfl rfl rfl rfl (ev_same (by first | (rw [hz]; decide) | (simp only [size_put, hz]; decide))) ?_
    refine seq_nil ?_
    refine seq_out ((((((((((KeepM.refl 6 [4] a6).put (by decide)).put (by decide)).put (by decide)).put (by decide)).put (by decide)).put (by decide)).put (by decide)).put (by decide)).put (by decide)) fun a7 k7 tr => ?_
    have f4 := tr 4 (.int .u64 (((((numTo l i) * 10) + (c.toNat - 48)) : Nat) : Int)) (ev_same (by first | (rw [hz]; decide) | (simp only [size_put, hz]; decide)))
    clear tr
    replace e0 := k7.ev e0 (by decide)
    replace e2 := k7.ev e2 (by decide)
    replace e3 := k7.ev e3 (by decide)
    replace e5 := k7.ev e5 (by decide)
    replace hz := k7.size.trans hz
    replace hd := k7.defers.trans hd
    replace kk0 := kk0.trans (k7.mono (ys := [4, 5]) (by decide))
    have e4 := f4
    clear f4
    rw [← hst] at e4
    refine seq_startL (l := [0, 1, 2]) (by kernel_rfl) ?_
    refine seq_move 23 (v := (.int .i64 ((i : Nat) : Int))) rfl rfl rfl rfl e5 ?_
    refine seq_valD 24 (v := (.int .i64 ((i + 1 : Nat) : Int))) rfl rfl rfl (run_incI rfl (ev_same (by first | (rw [hz]; decide) | (simp only [size_put, hz]; decide))) rfl (by omega)) ?_
    refine seq_assign 5 (v := (.int .i64 ((i + 1 : Nat) : Int))) rfl rfl rfl rfl (ev_same (by first | (rw [hz]; decide) | (simp only [size_put, hz]; decide))) ?_
    refine seq_nil ?_
    refine seq_out ((((KeepM.refl 6 [5] a7).put (by decide)).put (by decide)).put (by decide)) fun a8 k8 tr => ?_
    have f5 := tr 5 (.int .i64 ((i + 1 : Nat) : Int)) (ev_same (by first | (rw [hz]; decide) | (simp only [size_put, hz]; decide)))
    clear tr
    replace e0 := k8.ev e0 (by decide)
    replace e2 := k8.ev e2 (by decide)
    replace e3 := k8.ev e3 (by decide)
    replace e4 := k8.ev e4 (by decide)
    replace hz := k8.size.trans hz
    replace hd := k8.defers.trans hd
    replace kk0 := kk0.trans (k8.mono (ys := [4, 5]) (by decide))
    have e5 := f5
    clear f5
    refine ⟨⟨i + 1, by omega, kk0, e4, e5, hB⟩, ?_⟩
    rw [e5, e5s]; simp [intOf]; omega
  · rw [decide_eq_false (by omega)] at e22
    refine wp_cond_false e22 ?_
    refine wp_exit ?_
    refine exit_here1 (id := 0) ?_
    obtain rfl : i = l.length := by omega
    refine wp_seq ?_
    refine seq_startL (l := [0, 1, 2, 3, 4, 5]) (by kernel_rfl) ?_
    refine seq_move 33 (v := (.int .u64 (((numTo l l.length) : Nat) : Int))) rfl rfl rfl rfl e4 ?_
    refine seq_valD 34 (v := (.int .i64 (IntKind.i64.wrap (((numTo l l.length) : Nat) : Int)))) rfl rfl rfl (run_cvI64 rfl (ev_same (by first | (rw [hz]; decide) | (simp only [size_put, hz]; decide)))) ?_
    refine seq_move 35 (v := (.int .u64 (((numTo l l.length) : Nat) : Int))) rfl rfl rfl rfl ((ev_ne (by decide)).trans ((ev_ne (by decide)).trans e4)) ?_
    refine seq_valD 36 (v := (.bool (decide (numTo l l.length < 9223372036854775808)))) rfl rfl rfl ((run_ltU rfl (ev_same (by first | (rw [hz]; decide) | (simp only [size_put, hz]; decide))) rfl).trans (okB (c := (decide (numTo l l.length < 9223372036854775808))) (by simp; omega))) ?_
    refine seq_assign 2 (v := (.int .i64 (IntKind.i64.wrap (((numTo l l.length) : Nat) : Int)))) rfl rfl rfl rfl ((ev_ne (by decide)).trans ((ev_ne (by decide)).trans (ev_same (by first | (rw [hz]; decide) | (simp only [size_put, hz]; decide))))) ?_
    refine seq_assign 3 (v := (.bool (decide (numTo l l.length < 9223372036854775808)))) rfl rfl rfl rfl ((ev_ne (by decide)).trans (ev_same (by first | (rw [hz]; decide) | (simp only [size_put, hz]; decide)))) ?_
    refine seq_nil ?_
    refine seq_out (((((((KeepM.refl 6 [2, 3] a6).put (by decide)).put (by decide)).put (by decide)).put (by decide)).put (by decide)).put (by decide)) fun a9 k9 tr => ?_
    have f2 := tr 2 (.int .i64 (IntKind.i64.wrap (((numTo l l.length) : Nat) : Int))) ((ev_ne (by decide)).trans (ev_same (by first | (rw [hz]; decide) | (simp only [size_put, hz]; decide))))
    have f3 := tr 3 (.bool (decide (numTo l l.length < 9223372036854775808))) (ev_same (by first | (rw [hz]; decide) | (simp only [size_put, hz]; decide)))
    clear tr
    replace e0 := k9.ev e0 (by decide)
    replace e4 := k9.ev e4 (by decide)
    replace e5 := k9.ev e5 (by decide)
    replace hz := k9.size.trans hz
    replace hd := k9.defers.trans hd
    have e2 := f2
    clear f2
    have e3 := f3
    clear f3
    refine wp_ret ?_
    exact post_two rfl hd e2 e3 ⟨rfl, hB⟩
set_option maxRecDepth 100000 in
set_option maxHeartbeats 4000000 in
theorem ref_number_ok2 (l : List UInt8) (w0 : World) (hdig : ∀ c ∈ l, 48 ≤ c.toNat ∧ c.toNat ≤ 57) (hl2 : l.length ≤ 1) : Calls Tryd.prog 43 #[Str l] w0 (Ret w0 (.tuple #[.int .i64 (IntKind.i64.wrap ((numTo l l.length : Nat) : Int)), .bool (decide (numTo l l.length < 9223372036854775808))])) := by
  refine calls_of_wp Tryd.func43 rfl ?_
  obtain ⟨hz, e0⟩ := start_act1 37 ((Str l)) (by decide)
  have hd : ({ tmps := #[(Str l)] ++ Array.replicate (37 - 1) undef, defers := [] } : Act).defers = [] := rfl
  rw [show Tryd.f43.ntmps - (#[(Str l)] : Array Value).size = 37 - 1 from rfl]
  generalize ({ tmps := #[(Str l)] ++ Array.replicate (37 - 1) undef, defers := [] } : Act) = a0 at hz e0 hd ⊢
  have hB : Below w0.heap.size w0 w0 := Below.refl _ _
  have hS := hB.size
  refine wp_seq ?_
  refine seq_startL (l := [0, 1]) (by kernel_rfl) ?_
  refine seq_assign 2 (v := (.int .i64 0)) rfl rfl rfl rfl rfl ?_
  refine seq_assign 3 (v := (.bool false)) rfl rfl rfl rfl rfl ?_
  refine seq_nil ?_
  refine seq_out (((KeepM.refl 6 [2, 3] a0).put (by decide)).put (by decide)) fun a1 k1 tr => ?_
  have f2 := tr 2 (.int .i64 0) ((ev_ne (by decide)).trans (ev_same (by first | (rw [hz]; decide) | (simp only [size_put, hz]; decide))))
  have f3 := tr 3 (.bool false) (ev_same (by first | (rw [hz]; decide) | (simp only [size_put, hz]; decide)))
  clear tr
  replace e0 := k1.ev e0 (by decide)
  replace hz := k1.size.trans hz
  replace hd := k1.defers.trans hd
  have e2 := f2
  clear f2
  have e3 := f3
  clear f3
  refine wp_seq ?_
  refine wp_seq ?_
  have hlast : lastOk (regOps Tryd.f43 1) 13 = true := by kernel_rfl
  refine region_ws (n := 13) [some (Str l), some (.int .i64 ((l.length : Nat) : Int)), some (.bool false), some (.bool false), some undef, some undef, some undef, some (.bool false), some (.bool false), some (Str l), some (.int .i64 ((l.length : Nat) : Int)), some (.bool false), some (.bool false)] 13 w0 w0 (by rw [hz]; kernel_rfl) (by kernel_rfl) (by kernel_rfl) (by kernel_rfl) ?_ fun L a2 w2 hL st => ?_
  · refine ⟨⟨⟨⟨⟨⟨⟨⟨⟨⟨⟨⟨⟨trivial, ?_⟩, ?_⟩, ?_⟩, ?_⟩, ?_⟩, ?_⟩, ?_⟩, ?_⟩, ?_⟩, ?_⟩, ?_⟩, ?_⟩, ?_⟩
    · intro oo aa ww LL hho hLL haft st; obtain rfl := Option.some.inj hho; exact payW_move st hlast hLL (by decide) (want_none rfl) rfl (st.outV (by kernel_rfl) e0) rfl
    · intro oo aa ww LL hho hLL haft st; obtain rfl := Option.some.inj hho; exact payW st hlast hLL (by decide) (want_none rfl) (run_lenS rfl (st.argV (j := 0) (aft_of haft (by kernel_rfl)) rfl rfl)) rfl
    · intro oo aa ww LL hho hLL haft st; obtain rfl := Option.some.inj hho; exact payW st hlast hLL (by decide) (want_none rfl) ((run_gtI rfl (st.argV (j := 1) (aft_of haft (by kernel_rfl)) rfl rfl) rfl).trans (okB (c := false) (decide_eq_false (by omega)))) rfl
    · intro oo aa ww LL hho hLL haft st; obtain rfl := Option.some.inj hho; exact payW_move st hlast hLL (by decide) (want_none rfl) rfl (st.argV (j := 2) (aft_of haft (by kernel_rfl)) rfl rfl) rfl
    · intro oo aa ww LL hho hLL haft st; obtain rfl := Option.some.inj hho; exact st.skipW hlast hLL (by decide) haft rfl (by kernel_rfl) rfl (.inl rfl) rfl
    · intro oo aa ww LL hho hLL haft st; obtain rfl := Option.some.inj hho; exact st.skipW hlast hLL (by decide) haft rfl (by kernel_rfl) rfl (.inl rfl) rfl
    · intro oo aa ww LL hho hLL haft st; obtain rfl := Option.some.inj hho; exact st.skipW hlast hLL (by decide) haft rfl (by kernel_rfl) rfl (.inl rfl) rfl
    · intro oo aa ww LL hho hLL haft st; obtain rfl := Option.some.inj hho; exact payW_pick st hlast hLL (by decide) (want_none rfl) rfl (st.argV (j := 3) (aft_of haft (by kernel_rfl)) rfl rfl) rfl rfl
    · intro oo aa ww LL hho hLL haft st; obtain rfl := Option.some.inj hho; exact payW_move st hlast hLL (by decide) (want_none rfl) rfl (st.argV (j := 7) (aft_of haft (by kernel_rfl)) rfl rfl) rfl
    · intro oo aa ww LL hho hLL haft st; obtain rfl := Option.some.inj hho; exact payW_move st hlast hLL (by decide) (st.wantV haft rfl (by kernel_rfl) rfl) rfl (st.outV (by kernel_rfl) e0) rfl
    · intro oo aa ww LL hho hLL haft st; obtain rfl := Option.some.inj hho; exact payW st hlast hLL (by decide) (st.wantV haft rfl (by kernel_rfl) rfl) (run_lenS rfl (st.argV (j := 9) (aft_of haft (by kernel_rfl)) rfl rfl)) rfl
    · intro oo aa ww LL hho hLL haft st; obtain rfl := Option.some.inj hho; exact payW st hlast hLL (by decide) (st.wantV haft rfl (by kernel_rfl) rfl) ((run_gtI rfl (st.argV (j := 10) (aft_of haft (by kernel_rfl)) rfl rfl) rfl).trans (okB (c := false) (decide_eq_false (by omega)))) rfl
    · intro oo aa ww LL hho hLL haft st; obtain rfl := Option.some.inj hho; exact payW_pick st hlast hLL (by decide) (want_none rfl) rfl (st.argV (j := 8) (aft_of haft (by kernel_rfl)) rfl rfl) (st.argV (j := 11) (aft_of haft (by kernel_rfl)) rfl rfl) rfl
  clear hlast
  rw [st.end1 (Nat.le_of_eq (by kernel_rfl))]
  have k2 : KeepM 6 [] a1 a2 := st.keepM (by kernel_rfl)
  have e18 : a2.eval (.tmp 18) = (.bool false) := st.argV (j := 12) (hL 12 (by omega)) rfl rfl
  clear st hL L
  replace e0 := k2.ev e0 (by decide)
  replace e2 := k2.ev e2 (by decide)
  replace e3 := k2.ev e3 (by decide)
  replace hz := k2.size.trans hz
  replace hd := k2.defers.trans hd
  refine wp_cond_false e18 ?_
  refine wp_skip ?_
  refine wp_seq ?_
  refine seq_startL (l := [0]) (by kernel_rfl) ?_
  refine seq_assign 4 (v := (.int .u64 0)) rfl rfl rfl rfl rfl ?_
  refine seq_nil ?_
  refine seq_out ((KeepM.refl 6 [4] a2).put (by decide)) fun a3 k3 tr => ?_
  have f4 := tr 4 (.int .u64 0) (ev_same (by first | (rw [hz]; decide) | (simp only [size_put, hz]; decide)))
  clear tr
  replace e0 := k3.ev e0 (by decide)
  replace e2 := k3.ev e2 (by decide)
  replace e3 := k3.ev e3 (by decide)
  replace hz := k3.size.trans hz
  replace hd := k3.defers.trans hd
  have e4 := f4
  clear f4
  refine wp_seq ?_
  refine wp_seq ?_
  refine seq_startL (l := [0]) (by kernel_rfl) ?_
  refine seq_assign 5 (v := (.int .i64 0)) rfl rfl rfl rfl rfl ?_
  refine seq_nil ?_
  refine seq_out ((KeepM.refl 6 [5] a3).put (by decide)) fun a4 k4 tr => ?_
  have f5 := tr 5 (.int .i64 0) (ev_same (by first | (rw [hz]; decide) | (simp only [size_put, hz]; decide)))
  clear tr
  replace e0 := k4.ev e0 (by decide)
  replace e2 := k4.ev e2 (by decide)
  replace e3 := k4.ev e3 (by decide)
  replace e4 := k4.ev e4 (by decide)
  replace hz := k4.size.trans hz
  replace hd := k4.defers.trans hd
  have e5 := f5
  clear f5
  refine wp_block ?_
  refine wp_loop (fun aq wq => ∃ (i : Nat), (i ≤ l.length) ∧ KeepM 6 [4, 5] a4 aq ∧ aq.eval (.tmp 4) = (.int .u64 (((numTo l i) : Nat) : Int)) ∧ aq.eval (.tmp 5) = (.int .i64 ((i : Nat) : Int)) ∧ Below w0.heap.size w0 wq) (fun aq _ => l.length - (intOf (aq.eval (.tmp 5))).toNat) ⟨0, Nat.zero_le _, KeepM.refl _ _ _, e4, e5, hB⟩ ?_
  rintro a5 w5 ⟨i, hk0, kk0, g4, g5, qB⟩
  replace e0 := kk0.ev e0 (by decide)
  replace e2 := kk0.ev e2 (by decide)
  replace e3 := kk0.ev e3 (by decide)
  replace hz := kk0.size.trans hz
  replace hd := kk0.defers.trans hd
  clear e4 e5  hB hS
  have e4 := g4
  have e5 := g5
  have hB := qB
  have hS := hB.size
  clear  qB
  have e5s := e5
  refine wp_seq ?_
  refine wp_seq ?_
  refine seq_startL (l := [0, 1, 2, 3]) (by kernel_rfl) ?_
  refine seq_move 19 (v := (.int .i64 ((i : Nat) : Int))) rfl rfl rfl rfl e5 ?_
  refine seq_move 20 (v := (Str l)) rfl rfl rfl rfl ((ev_ne (by decide)).trans e0) ?_
  refine seq_valD 21 (v := (.int .i64 ((l.length : Nat) : Int))) rfl rfl rfl (run_lenS rfl (ev_same (by first | (rw [hz]; decide) | (simp only [size_put, hz]; decide)))) ?_
  refine seq_valD 22 (v := (.bool (decide (((i : Nat) : Int) < ((l.length : Nat) : Int))))) rfl rfl rfl (run_ltI rfl ((ev_ne (by decide)).trans ((ev_ne (by decide)).trans (ev_same (by first | (rw [hz]; decide) | (simp only [size_put, hz]; decide))))) (ev_same (by first | (rw [hz]; decide) | (simp only [size_put, hz]; decide)))) ?_
  refine seq_nil ?_
  refine seq_out (((((KeepM.refl 6 [] a5).put (by decide)).put (by decide)).put (by decide)).put (by decide)) fun a6 k6 tr => ?_
  have f22 := tr 22 (.bool (decide (((i : Nat) : Int) < ((l.length : Nat) : Int)))) (ev_same (by first | (rw [hz]; decide) | (simp only [size_put, hz]; decide)))
  clear tr
  replace e0 := k6.ev e0 (by decide)
  replace e2 := k6.ev e2 (by decide)
  replace e3 := k6.ev e3 (by decide)
  replace e4 := k6.ev e4 (by decide)
  replace e5 := k6.ev e5 (by decide)
  replace hz := k6.size.trans hz
  replace hd := k6.defers.trans hd
  replace kk0 := kk0.trans (k6.mono (ys := [4, 5]) (by decide))
  have e22 := f22
  clear f22
  by_cases hlti : i < l.length
  · rw [decide_eq_true (by omega)] at e22
    refine wp_cond_true e22 ?_
    refine wp_skip ?_
    refine wp_seq ?_
    refine wp_block ?_
    obtain ⟨c, hc⟩ : ∃ c, l[i]? = some c := ⟨_, List.getElem?_eq_getElem (by omega)⟩
    obtain ⟨hd1, hd2⟩ := hdig c (List.mem_of_getElem? hc)
    have hnb := numTo_lt hdig i
    have hst := numTo_succ l i c hc
    have hp19 : 10 ^ i ≤ 10 ^ 18 := Nat.pow_le_pow_right (by decide) (by omega)
    refine seq_startL (l := [0, 1, 2, 3, 4, 5, 6, 7, 8]) (by kernel_rfl) ?_
    refine seq_move 25 (v := (.int .u64 (((numTo l i) : Nat) : Int))) rfl rfl rfl rfl e4 ?_
    refine seq_valD 26 (v := (.int .u64 ((((numTo l i) * 10) : Nat) : Int))) rfl rfl rfl (run_mulU rfl (ev_same (by first | (rw [hz]; decide) | (simp only [size_put, hz]; decide))) rfl (by omega)) ?_
    refine seq_move 27 (v := (Str l)) rfl rfl rfl rfl ((ev_ne (by decide)).trans ((ev_ne (by decide)).trans e0)) ?_
    refine seq_move 28 (v := (.int .i64 ((i : Nat) : Int))) rfl rfl rfl rfl ((ev_ne (by decide)).trans ((ev_ne (by decide)).trans ((ev_ne (by decide)).trans e5))) ?_
    refine seq_valD 29 (v := (.int .u8 ((c.toNat : Nat) : Int))) rfl rfl rfl (run_idxS (k := i) rfl ((ev_ne (by decide)).trans (ev_same (by first | (rw [hz]; decide) | (simp only [size_put, hz]; decide)))) (ev_same (by first | (rw [hz]; decide) | (simp only [size_put, hz]; decide))) hc) ?_
    refine seq_valD 30 (v := (.int .u8 (((c.toNat - 48) : Nat) : Int))) rfl rfl rfl (run_sub48 rfl (ev_same (by first | (rw [hz]; decide) | (simp only [size_put, hz]; decide))) rfl hd1) ?_
    refine seq_valD 31 (v := (.int .u64 (((c.toNat - 48) : Nat) : Int))) rfl rfl rfl (run_cv8 rfl (ev_same (by first | (rw [hz]; decide) | (simp only [size_put, hz]; decide))) (by omega)) ?_
    refine seq_valD 32 (v := (.int .u64 (((((numTo l i) * 10) + (c.toNat - 48)) : Nat) : Int))) rfl rfl rfl (run_addU rfl ((ev_ne (by decide)).trans ((ev_ne (by decide)).trans ((ev_ne (by decide)).trans ((ev_ne (by decide)).trans ((ev_ne (by decide)).trans (ev_same (by first | (rw [hz]; decide) | (simp only [size_put, hz]; decide)))))))) (ev_same (by first | (rw [hz]; decide) | (simp only [size_put, hz]; decide))) (by omega)) ?_
    refine seq_assign 4 (v := (.int .u64 (((((numTo l i) * 10) + (c.toNat - 48)) : Nat) : Int))) rfl rfl rfl rfl (ev_same (by first | (rw [hz]; decide) | (simp only [size_put, hz]; decide))) ?_
    refine seq_nil ?_
    refine seq_out ((((((((((KeepM.refl 6 [4] a6).put (by decide)).put (by decide)).put (by decide)).put (by decide)).put (by decide)).put (by decide)).put (by decide)).put (by decide)).put (by decide)) fun a7 k7 tr => ?_
    have f4 := tr 4 (.int .u64 (((((numTo l i) * 10) + (c.toNat - 48)) : Nat) : Int)) (ev_same (by first | (rw [hz]; decide) | (simp only [size_put, hz]; decide)))
    clear tr
    replace e0 := k7.ev e0 (by decide)
    replace e2 := k7.ev e2 (by decide)
    replace e3 := k7.ev e3 (by decide)
    replace e5 := k7.ev e5 (by decide)
    replace hz := k7.size.trans hz
    replace hd := k7.defers.trans hd
    replace kk0 := kk0.trans (k7.mono (ys := [4, 5]) (by decide))
    have e4 := f4
    clear f4
    rw [← hst] at e4
    refine seq_startL (l := [0, 1, 2]) (by kernel_rfl) ?_
    refine seq_move 23 (v := (.int .i64 ((i : Nat) : Int))) rfl rfl rfl rfl e5 ?_
    refine seq_valD 24 (v := (.int .i64 ((i + 1 : Nat) : Int))) rfl rfl rfl (run_incI rfl (ev_same (by first | (rw [hz]; decide) | (simp only [size_put, hz]; decide))) rfl (by omega)) ?_
    refine seq_assign 5 (v := (.int .i64 ((i + 1 : Nat) : Int))) rfl rfl rfl rfl (ev_same (by first | (rw [hz]; decide) | (simp only [size_put, hz]; decide))) ?_
    refine seq_nil ?_
    refine seq_out ((((KeepM.refl 6 [5] a7).put (by decide)).put (by decide)).put (by decide)) fun a8 k8 tr => ?_
    have f5 := tr 5 (.int .i64 ((i + 1 : Nat) : Int)) (ev_same (by first | (rw [hz]; decide) | (simp only [size_put, hz]; decide)))
    clear tr
    replace e0 := k8.ev e0 (by decide)
    replace e2 := k8.ev e2 (by decide)
    replace e3 := k8.ev e3 (by decide)
    replace e4 := k8.ev e4 (by decide)
    replace hz := k8.size.trans hz
    replace hd := k8.defers.trans hd
    replace kk0 := kk0.trans (k8.mono (ys := [4, 5]) (by decide))
    have e5 := f5
    clear f5
    refine ⟨⟨i + 1, by omega, kk0, e4, e5, hB⟩, ?_⟩
    rw [e5, e5s]; simp [intOf]; omega
  · rw [decide_eq_false (by omega)] at e22
    refine wp_cond_false e22 ?_
    refine wp_exit ?_
    refine exit_here1 (id := 0) ?_
    obtain rfl : i = l.length := by omega
    refine wp_seq ?_
    refine seq_startL (l := [0, 1, 2, 3, 4, 5]) (by kernel_rfl) ?_
    refine seq_move 33 (v := (.int .u64 (((numTo l l.length) : Nat) : Int))) rfl rfl rfl rfl e4 ?_
    refine seq_valD 34 (v := (.int .i64 (IntKind.i64.wrap (((numTo l l.length) : Nat) : Int)))) rfl rfl rfl (run_cvI64 rfl (ev_same (by first | (rw [hz]; decide) | (simp only [size_put, hz]; decide)))) ?_
    refine seq_move 35 (v := (.int .u64 (((numTo l l.length) : Nat) : Int))) rfl rfl rfl rfl ((ev_ne (by decide)).trans ((ev_ne (by decide)).trans e4)) ?_
    refine seq_valD 36 (v := (.bool (decide (numTo l l.length < 9223372036854775808)))) rfl rfl rfl ((run_ltU rfl (ev_same (by first | (rw [hz]; decide) | (simp only [size_put, hz]; decide))) rfl).trans (okB (c := (decide (numTo l l.length < 9223372036854775808))) (by simp; omega))) ?_
    refine seq_assign 2 (v := (.int .i64 (IntKind.i64.wrap (((numTo l l.length) : Nat) : Int)))) rfl rfl rfl rfl ((ev_ne (by decide)).trans ((ev_ne (by decide)).trans (ev_same (by first | (rw [hz]; decide) | (simp only [size_put, hz]; decide))))) ?_
    refine seq_assign 3 (v := (.bool (decide (numTo l l.length < 9223372036854775808)))) rfl rfl rfl rfl ((ev_ne (by decide)).trans (ev_same (by first | (rw [hz]; decide) | (simp only [size_put, hz]; decide)))) ?_
    refine seq_nil ?_
    refine seq_out (((((((KeepM.refl 6 [2, 3] a6).put (by decide)).put (by decide)).put (by decide)).put (by decide)).put (by decide)).put (by decide)) fun a9 k9 tr => ?_
    have f2 := tr 2 (.int .i64 (IntKind.i64.wrap (((numTo l l.length) : Nat) : Int))) ((ev_ne (by decide)).trans (ev_same (by first | (rw [hz]; decide) | (simp only [size_put, hz]; decide))))
    have f3 := tr 3 (.bool (decide (numTo l l.length < 9223372036854775808))) (ev_same (by first | (rw [hz]; decide) | (simp only [size_put, hz]; decide)))
    clear tr
    replace e0 := k9.ev e0 (by decide)
    replace e4 := k9.ev e4 (by decide)
    replace e5 := k9.ev e5 (by decide)
    replace hz := k9.size.trans hz
    replace hd := k9.defers.trans hd
    have e2 := f2
    clear f2
    have e3 := f3
    clear f3
    refine wp_ret ?_
    exact post_two rfl hd e2 e3 ⟨rfl, hB⟩
/-- What number answers, of digits. -/
def numOf (l : List UInt8) : Int × Bool := if ((decide (1 < l.length) && (((l.getD 0 0).toNat : Int) == 48)) || decide (19 < l.length)) = true then (0, false) else (IntKind.i64.wrap ((numTo l l.length : Nat) : Int), decide (numTo l l.length < 9223372036854775808))
theorem ref_number (l : List UInt8) (w0 : World) (hdig : ∀ c ∈ l, 48 ≤ c.toNat ∧ c.toNat ≤ 57) : Calls Tryd.prog 43 #[Str l] w0 (Ret w0 (.tuple #[.int .i64 (numOf l).1, .bool (numOf l).2])) := by
  unfold numOf
  by_cases hl : 1 < l.length
  · obtain ⟨c0, hc0⟩ : ∃ c0, l[0]? = some c0 := ⟨_, List.getElem?_eq_getElem (by omega)⟩
    have e0 : l.getD 0 0 = c0 := by rw [List.getD_eq_getElem?_getD, hc0]; rfl
    rw [e0, decide_eq_true hl]
    cases h0 : (((c0.toNat : Nat) : Int) == 48) with
    | true => exact ref_number_zero l w0 hc0 hl h0
    | false =>
      by_cases hl2 : 19 < l.length
      · rw [decide_eq_true hl2]; exact ref_number_long1 l w0 hc0 hl2 h0
      · rw [decide_eq_false hl2]; exact ref_number_ok1 l w0 hdig hc0 hl (by omega) h0
  · rw [decide_eq_false hl, decide_eq_false (by omega : ¬ 19 < l.length)]
    exact ref_number_ok2 l w0 hdig (by omega)
theorem en_ref_number : Enters Tryd.prog 43 := enters_of Tryd.func43 (by kernel_rfl) rfl
end Go.Proofs.YtbcfggdifljacaaDoor
