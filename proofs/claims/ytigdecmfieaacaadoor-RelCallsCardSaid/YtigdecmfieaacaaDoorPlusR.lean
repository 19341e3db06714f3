/-
  RelPlus, region by region: the closure is the least relation; nothing is related to itself by it just where there is a list.
-/
import Derived.Test.YtigdecmfieaacaaDoorVal2
import Derived.Test.YtigdecmfieaacaaDoorPairs
import Derived.Test.YtigdecmfieaacaaDoorPure3
namespace Go.Proofs.YtigdecmfieaacaaDoor
open Go Go.RowKit

/-- The variables' slots lie as they lay, but for slot x. -/
structure KeepV (x : Nat) (a0 a : Act) : Prop where
  defers : a.defers = a0.defers
  size : a.tmps.size = a0.tmps.size
  var : ∀ s, s < 15 → s ≠ x → a.tmps[s]? = a0.tmps[s]?
def keepOk (ops : Array Oper) (x : Nat) : Bool := (List.range ops.size).all fun j => match slotOf ops j with
  | some d => decide (15 ≤ d) || d == x
  | none => true
theorem St.keepV {ops : Array Oper} {T : Nat → (Nat → Value) → World → Prop} {G : World → Prop} {a0 a : Act} {L : Nat → Bool} {w : World} {x : Nat} (st : St ops T G a0 L a w) (h : keepOk ops x = true) : KeepV x a0 a :=
  ⟨st.defers, st.size, fun s hs hx => st.outer s (fun j hj => by
    rcases Nat.lt_or_ge j ops.size with hl | hl
    · have := List.all_eq_true.1 h j (by simpa using hl)
      rw [hj] at this
      rcases Bool.or_eq_true_iff.1 this with h1 | h1
      · exact absurd (show (15 : Nat) ≤ s from of_decide_eq_true h1) (Nat.not_le.2 hs)
      · exact hx (by simpa using h1)
    · unfold slotOf at hj; rw [Array.getElem?_eq_none hl] at hj; cases hj)⟩
theorem KeepV.trans {x : Nat} {a b c : Act} (h : KeepV x a b) (k : KeepV x b c) : KeepV x a c := ⟨k.defers.trans h.defers, k.size.trans h.size, fun s hs hx => (k.var s hs hx).trans (h.var s hs hx)⟩
abbrev BoxAt (a : Act) (w : World) (s b : Nat) (r : RA) : Prop := a.tmps[s]? = some (.pointer (some ⟨b, 0, none⟩)) ∧ RowT w b 26 r.cells ∧ r.good w ∧ Short r.pr

theorem okB {b c : Bool} {w : World} (h : b = c) : (Result.ok (Next.value (.bool b)) w : Result Next) = .ok (.value (.bool c)) w := by rw [h]
set_option maxRecDepth 100000 in
set_option maxHeartbeats 4000000 in
theorem r4 {Q : Exit → Act → World → Prop} {a0 : Act} {w0 : World} {b2 : Nat} {r : RA}  (hT : Tab w0) (hsz : a0.tmps.size = 193) (x2 : BoxAt a0 w0 2 b2 r) (hk : PkitRel (Pplus r.pr) PR.zero = true) 
    (hK : ∀ a w, KeepV 4 a0 a → a.eval (.tmp 4) = .bool true → Below w0.heap.size w0 w → Q .normal a w) : (Code.region 4 (regOps Tryd.f7 4) false).wp Tryd.prog Q a0 w0 := by
  refine region_ts_seq (n := 5) [Sp.rel r.pr, Sp.rel (Pplus r.pr), Sp.rel PR.zero, Sp.val (.bool true), Sp.val (.bool true)] w0 (by rw [hsz]; kernel_rfl) (by kernel_rfl) (by kernel_rfl) (by kernel_rfl) ?steps ?fin
  case steps =>
    refine ⟨⟨⟨⟨⟨trivial, ?s0⟩, ?s1⟩, ?s2⟩, ?s3⟩, ?s4⟩
    case s0 =>
      intro o a w L ho hL haft st
      obtain rfl := Option.some.inj ho
      exact pay_loadR st (want_none rfl) rfl (st.out (by kernel_rfl) x2.1) x2.2.1 x2.2.2.1 x2.2.2.2 rfl
    case s1 =>
      intro o a w L ho hL haft st
      obtain rfl := Option.some.inj ho
      exact call_RR C_Plus en_Plus hT st (want_none rfl) rfl (st.arg (j := 0) (aft_of haft (by kernel_rfl)) rfl rfl) rfl rfl (short_plus _)
    case s2 =>
      intro o a w L ho hL haft st
      obtain rfl := Option.some.inj ho
      exact pay_rel0 st (want_none rfl) rfl rfl
    case s3 =>
      intro o a w L ho hL haft st
      obtain rfl := Option.some.inj ho
      exact call_RRB C_kitRel en_kitRel st (want_none rfl) rfl (st.arg (j := 1) (aft_of haft (by kernel_rfl)) rfl rfl) (st.arg (j := 2) (aft_of haft (by kernel_rfl)) rfl rfl) rfl hk
    case s4 =>
      intro o a w L ho hL haft st
      obtain rfl := Option.some.inj ho
      exact pay_assign st (want_none rfl) rfl (show Sp.holds (Sp.val (.bool true)) _ _ _ from (st.arg (j := 3) (aft_of haft (by kernel_rfl)) rfl rfl)) rfl rfl
  case fin =>
    intro L a w hL st
    exact hK a w (st.keepV (by kernel_rfl)) (st.arg (j := 4) (hL 4 (by omega)) rfl rfl) st.g
set_option maxRecDepth 100000 in
set_option maxHeartbeats 4000000 in
theorem r5 {Q : Exit → Act → World → Prop} {a0 : Act} {w0 : World} {b2 : Nat} {r : RA}  (hT : Tab w0) (hsz : a0.tmps.size = 193) (x2 : BoxAt a0 w0 2 b2 r)  
    (hK : ∀ a w, KeepV 5 a0 a → AStored (a.eval (.tmp 5)) (Pplus r.pr) w → Below w0.heap.size w0 w → Q .normal a w) : (Code.region 5 (regOps Tryd.f7 5) false).wp Tryd.prog Q a0 w0 := by
  refine region_ts_seq (n := 4) [Sp.rel r.pr, Sp.rel (Pplus r.pr), Sp.box w0.heap.size, Sp.stored 2 (Pplus r.pr)] w0 (by rw [hsz]; kernel_rfl) (by kernel_rfl) (by kernel_rfl) (by kernel_rfl) ?steps ?fin
  case steps =>
    refine ⟨⟨⟨⟨trivial, ?s0⟩, ?s1⟩, ?s2⟩, ?s3⟩
    case s0 =>
      intro o a w L ho hL haft st
      obtain rfl := Option.some.inj ho
      exact pay_loadR st (want_none rfl) rfl (st.out (by kernel_rfl) x2.1) x2.2.1 x2.2.2.1 x2.2.2.2 rfl
    case s1 =>
      intro o a w L ho hL haft st
      obtain rfl := Option.some.inj ho
      exact call_RR C_Plus en_Plus hT st (want_none rfl) rfl (st.arg (j := 0) (aft_of haft (by kernel_rfl)) rfl rfl) rfl rfl (short_plus _)
    case s2 =>
      intro o a w L ho hL haft st
      obtain rfl := Option.some.inj ho
      exact pay_allocR st (want_none rfl) rfl rfl
    case s3 =>
      intro o a w L ho hL haft st
      obtain rfl := Option.some.inj ho
      exact pay_store (k := 2) st haft (want_none rfl) rfl rfl rfl (by kernel_rfl) rfl (by decide) (st.arg (j := 1) (aft_of haft (by kernel_rfl)) rfl rfl) rfl (by kernel_rfl) rfl
  case fin =>
    intro L a w hL st
    exact hK a w (st.keepV (by kernel_rfl)) (st.arg_stored (j := 3) (hL 3 (by omega)) rfl rfl) st.g
set_option maxRecDepth 100000 in
set_option maxHeartbeats 4000000 in
theorem r6 {Q : Exit → Act → World → Prop} {a0 : Act} {w0 : World} {b2 b5 : Nat} {r p : RA}  (hT : Tab w0) (hsz : a0.tmps.size = 193) (x2 : BoxAt a0 w0 2 b2 r) (x5 : BoxAt a0 w0 5 b5 p)  (hs5 : Psame (Por [r.pr, p.pr]) p.pr = true) (hs16 : Psame (Por [(Pthen [p.pr, p.pr]), p.pr]) p.pr = true) (hs23 : Psame (Pplus p.pr) p.pr = true)
    (hK : ∀ a w, KeepV 99 a0 a → a.eval (.tmp 51) = .bool false → Below w0.heap.size w0 w → Q .normal a w) : (Code.region 6 (regOps Tryd.f7 6) true).wp Tryd.prog Q a0 w0 := by
  refine region_ts (n := 26) [Sp.rel r.pr, Sp.rel p.pr, Sp.rels [r.pr, p.pr], Sp.rel (Por [r.pr, p.pr]), Sp.rel p.pr, Sp.val (.bool true), Sp.val (.bool false), Sp.val (.bool false), Sp.rel p.pr, Sp.rel p.pr, Sp.rels [p.pr, p.pr], Sp.rel (Pthen [p.pr, p.pr]), Sp.rel p.pr, Sp.rels [(Pthen [p.pr, p.pr]), p.pr], Sp.rel (Por [(Pthen [p.pr, p.pr]), p.pr]), Sp.rel p.pr, Sp.val (.bool true), Sp.val (.bool false), Sp.val (.bool false), Sp.val (.bool false), Sp.rel p.pr, Sp.rel (Pplus p.pr), Sp.rel p.pr, Sp.val (.bool true), Sp.val (.bool false), Sp.val (.bool false)] w0 (by kernel_rfl) (by rw [hsz]; kernel_rfl) (by kernel_rfl) (by kernel_rfl) (by kernel_rfl) (by kernel_rfl) ?steps ?fin
  case steps =>
    refine ⟨⟨⟨⟨⟨⟨⟨⟨⟨⟨⟨⟨⟨⟨⟨⟨⟨⟨⟨⟨⟨⟨⟨⟨⟨⟨trivial, ?s0⟩, ?s1⟩, ?s2⟩, ?s3⟩, ?s4⟩, ?s5⟩, ?s6⟩, ?s7⟩, ?s8⟩, ?s9⟩, ?s10⟩, ?s11⟩, ?s12⟩, ?s13⟩, ?s14⟩, ?s15⟩, ?s16⟩, ?s17⟩, ?s18⟩, ?s19⟩, ?s20⟩, ?s21⟩, ?s22⟩, ?s23⟩, ?s24⟩, ?s25⟩
    case s0 =>
      intro o a w L ho hL haft st
      obtain rfl := Option.some.inj ho
      exact pay_loadR st (want_none rfl) rfl (st.out (by kernel_rfl) x2.1) x2.2.1 x2.2.2.1 x2.2.2.2 rfl
    case s1 =>
      intro o a w L ho hL haft st
      obtain rfl := Option.some.inj ho
      exact pay_loadR st (want_none rfl) rfl (st.out (by kernel_rfl) x5.1) x5.2.1 x5.2.2.1 x5.2.2.2 rfl
    case s2 =>
      intro o a w L ho hL haft st
      obtain rfl := Option.some.inj ho
      exact pay_rels2 st (want_none rfl) rfl (st.arg (j := 0) (aft_of haft (by kernel_rfl)) rfl rfl) (st.arg (j := 1) (aft_of haft (by kernel_rfl)) rfl rfl) rfl
    case s3 =>
      intro o a w L ho hL haft st
      obtain rfl := Option.some.inj ho
      exact call_LR C_Or en_Or hT st (want_none rfl) rfl (st.arg (j := 2) (aft_of haft (by kernel_rfl)) rfl rfl) (by simp) rfl rfl (short_or _)
    case s4 =>
      intro o a w L ho hL haft st
      obtain rfl := Option.some.inj ho
      exact pay_loadR st (want_none rfl) rfl (st.out (by kernel_rfl) x5.1) x5.2.1 x5.2.2.1 x5.2.2.2 rfl
    case s5 =>
      intro o a w L ho hL haft st
      obtain rfl := Option.some.inj ho
      exact call_RRB C_Same en_Same st (want_none rfl) rfl (st.arg (j := 3) (aft_of haft (by kernel_rfl)) rfl rfl) (st.arg (j := 4) (aft_of haft (by kernel_rfl)) rfl rfl) rfl hs5
    case s6 =>
      intro o a w L ho hL haft st
      obtain rfl := Option.some.inj ho
      exact pay_not st (want_none rfl) rfl (st.arg (j := 5) (aft_of haft (by kernel_rfl)) rfl rfl) rfl
    case s7 =>
      intro o a w L ho hL haft st
      obtain rfl := Option.some.inj ho
      exact pay_move st (want_none rfl) rfl (show Sp.holds (Sp.val (.bool false)) _ _ _ from (st.arg (j := 6) (aft_of haft (by kernel_rfl)) rfl rfl)) rfl rfl
    case s8 =>
      intro o a w L ho hL haft st
      obtain rfl := Option.some.inj ho
      exact pay_loadR st (st.want haft rfl (by kernel_rfl) rfl) rfl (st.out (by kernel_rfl) x5.1) x5.2.1 x5.2.2.1 x5.2.2.2 rfl
    case s9 =>
      intro o a w L ho hL haft st
      obtain rfl := Option.some.inj ho
      exact pay_loadR st (st.want haft rfl (by kernel_rfl) rfl) rfl (st.out (by kernel_rfl) x5.1) x5.2.1 x5.2.2.1 x5.2.2.2 rfl
    case s10 =>
      intro o a w L ho hL haft st
      obtain rfl := Option.some.inj ho
      exact pay_rels2 st (st.want haft rfl (by kernel_rfl) rfl) rfl (st.arg (j := 8) (aft_of haft (by kernel_rfl)) rfl rfl) (st.arg (j := 9) (aft_of haft (by kernel_rfl)) rfl rfl) rfl
    case s11 =>
      intro o a w L ho hL haft st
      obtain rfl := Option.some.inj ho
      exact call_LR C_Then en_Then hT st (st.want haft rfl (by kernel_rfl) rfl) rfl (st.arg (j := 10) (aft_of haft (by kernel_rfl)) rfl rfl) (by simp) rfl rfl (short_then _)
    case s12 =>
      intro o a w L ho hL haft st
      obtain rfl := Option.some.inj ho
      exact pay_loadR st (st.want haft rfl (by kernel_rfl) rfl) rfl (st.out (by kernel_rfl) x5.1) x5.2.1 x5.2.2.1 x5.2.2.2 rfl
    case s13 =>
      intro o a w L ho hL haft st
      obtain rfl := Option.some.inj ho
      exact pay_rels2 st (st.want haft rfl (by kernel_rfl) rfl) rfl (st.arg (j := 11) (aft_of haft (by kernel_rfl)) rfl rfl) (st.arg (j := 12) (aft_of haft (by kernel_rfl)) rfl rfl) rfl
    case s14 =>
      intro o a w L ho hL haft st
      obtain rfl := Option.some.inj ho
      exact call_LR C_Or en_Or hT st (st.want haft rfl (by kernel_rfl) rfl) rfl (st.arg (j := 13) (aft_of haft (by kernel_rfl)) rfl rfl) (by simp) rfl rfl (short_or _)
    case s15 =>
      intro o a w L ho hL haft st
      obtain rfl := Option.some.inj ho
      exact pay_loadR st (st.want haft rfl (by kernel_rfl) rfl) rfl (st.out (by kernel_rfl) x5.1) x5.2.1 x5.2.2.1 x5.2.2.2 rfl
    case s16 =>
      intro o a w L ho hL haft st
      obtain rfl := Option.some.inj ho
      exact call_RRB C_Same en_Same st (st.want haft rfl (by kernel_rfl) rfl) rfl (st.arg (j := 14) (aft_of haft (by kernel_rfl)) rfl rfl) (st.arg (j := 15) (aft_of haft (by kernel_rfl)) rfl rfl) rfl hs16
    case s17 =>
      intro o a w L ho hL haft st
      obtain rfl := Option.some.inj ho
      exact pay_not st (st.want haft rfl (by kernel_rfl) rfl) rfl (st.arg (j := 16) (aft_of haft (by kernel_rfl)) rfl rfl) rfl
    case s18 =>
      intro o a w L ho hL haft st
      obtain rfl := Option.some.inj ho
      exact pay_pick st (want_none rfl) rfl (st.arg (j := 7) (aft_of haft (by kernel_rfl)) rfl rfl) (show Sp.holds (Sp.val (.bool false)) _ _ _ from (st.arg (j := 17) (aft_of haft (by kernel_rfl)) rfl rfl)) rfl rfl
    case s19 =>
      intro o a w L ho hL haft st
      obtain rfl := Option.some.inj ho
      exact pay_move st (want_none rfl) rfl (show Sp.holds (Sp.val (.bool false)) _ _ _ from (st.arg (j := 18) (aft_of haft (by kernel_rfl)) rfl rfl)) rfl rfl
    case s20 =>
      intro o a w L ho hL haft st
      obtain rfl := Option.some.inj ho
      exact pay_loadR st (st.want haft rfl (by kernel_rfl) rfl) rfl (st.out (by kernel_rfl) x5.1) x5.2.1 x5.2.2.1 x5.2.2.2 rfl
    case s21 =>
      intro o a w L ho hL haft st
      obtain rfl := Option.some.inj ho
      exact call_RR C_Plus en_Plus hT st (st.want haft rfl (by kernel_rfl) rfl) rfl (st.arg (j := 20) (aft_of haft (by kernel_rfl)) rfl rfl) rfl rfl (short_plus _)
    case s22 =>
      intro o a w L ho hL haft st
      obtain rfl := Option.some.inj ho
      exact pay_loadR st (st.want haft rfl (by kernel_rfl) rfl) rfl (st.out (by kernel_rfl) x5.1) x5.2.1 x5.2.2.1 x5.2.2.2 rfl
    case s23 =>
      intro o a w L ho hL haft st
      obtain rfl := Option.some.inj ho
      exact call_RRB C_Same en_Same st (st.want haft rfl (by kernel_rfl) rfl) rfl (st.arg (j := 21) (aft_of haft (by kernel_rfl)) rfl rfl) (st.arg (j := 22) (aft_of haft (by kernel_rfl)) rfl rfl) rfl hs23
    case s24 =>
      intro o a w L ho hL haft st
      obtain rfl := Option.some.inj ho
      exact pay_not st (st.want haft rfl (by kernel_rfl) rfl) rfl (st.arg (j := 23) (aft_of haft (by kernel_rfl)) rfl rfl) rfl
    case s25 =>
      intro o a w L ho hL haft st
      obtain rfl := Option.some.inj ho
      exact pay_pick st (want_none rfl) rfl (st.arg (j := 19) (aft_of haft (by kernel_rfl)) rfl rfl) (show Sp.holds (Sp.val (.bool false)) _ _ _ from (st.arg (j := 24) (aft_of haft (by kernel_rfl)) rfl rfl)) rfl rfl
  case fin =>
    intro L a w hL st
    exact hK a w (st.keepV (by kernel_rfl)) (st.arg (j := 25) (hL 25 (by omega)) rfl rfl) st.g
set_option maxRecDepth 100000 in
set_option maxHeartbeats 4000000 in
theorem r8 {Q : Exit → Act → World → Prop} {a0 : Act} {w0 : World} {b2 b3 : Nat} {r o : RA}  (hT : Tab w0) (hsz : a0.tmps.size = 193) (x2 : BoxAt a0 w0 2 b2 r) (x3 : BoxAt a0 w0 3 b3 o)  
    (hK : ∀ a w, KeepV 6 a0 a → AStored (a.eval (.tmp 6)) (Por [r.pr, o.pr]) w → Below w0.heap.size w0 w → Q .normal a w) : (Code.region 8 (regOps Tryd.f7 8) false).wp Tryd.prog Q a0 w0 := by
  refine region_ts_seq (n := 6) [Sp.rel r.pr, Sp.rel o.pr, Sp.rels [r.pr, o.pr], Sp.rel (Por [r.pr, o.pr]), Sp.box w0.heap.size, Sp.stored 4 (Por [r.pr, o.pr])] w0 (by rw [hsz]; kernel_rfl) (by kernel_rfl) (by kernel_rfl) (by kernel_rfl) ?steps ?fin
  case steps =>
    refine ⟨⟨⟨⟨⟨⟨trivial, ?s0⟩, ?s1⟩, ?s2⟩, ?s3⟩, ?s4⟩, ?s5⟩
    case s0 =>
      intro o a w L ho hL haft st
      obtain rfl := Option.some.inj ho
      exact pay_loadR st (want_none rfl) rfl (st.out (by kernel_rfl) x2.1) x2.2.1 x2.2.2.1 x2.2.2.2 rfl
    case s1 =>
      intro o a w L ho hL haft st
      obtain rfl := Option.some.inj ho
      exact pay_loadR st (want_none rfl) rfl (st.out (by kernel_rfl) x3.1) x3.2.1 x3.2.2.1 x3.2.2.2 rfl
    case s2 =>
      intro o a w L ho hL haft st
      obtain rfl := Option.some.inj ho
      exact pay_rels2 st (want_none rfl) rfl (st.arg (j := 0) (aft_of haft (by kernel_rfl)) rfl rfl) (st.arg (j := 1) (aft_of haft (by kernel_rfl)) rfl rfl) rfl
    case s3 =>
      intro o a w L ho hL haft st
      obtain rfl := Option.some.inj ho
      exact call_LR C_Or en_Or hT st (want_none rfl) rfl (st.arg (j := 2) (aft_of haft (by kernel_rfl)) rfl rfl) (by simp) rfl rfl (short_or _)
    case s4 =>
      intro o a w L ho hL haft st
      obtain rfl := Option.some.inj ho
      exact pay_allocR st (want_none rfl) rfl rfl
    case s5 =>
      intro o a w L ho hL haft st
      obtain rfl := Option.some.inj ho
      exact pay_store (k := 4) st haft (want_none rfl) rfl rfl rfl (by kernel_rfl) rfl (by decide) (st.arg (j := 3) (aft_of haft (by kernel_rfl)) rfl rfl) rfl (by kernel_rfl) rfl
  case fin =>
    intro L a w hL st
    exact hK a w (st.keepV (by kernel_rfl)) (st.arg_stored (j := 5) (hL 5 (by omega)) rfl rfl) st.g
set_option maxRecDepth 100000 in
set_option maxHeartbeats 4000000 in
theorem r9a {Q : Exit → Act → World → Prop} {a0 : Act} {w0 : World} {b3 : Nat} {o : RA}  (hT : Tab w0) (hsz : a0.tmps.size = 193) (x3 : BoxAt a0 w0 3 b3 o) (hc : (chk o.pr.n o.pr.rows == 0) = false) 
    (hK : ∀ a w, KeepV 99 a0 a → a.eval (.tmp 85) = .bool false → Below w0.heap.size w0 w → Q .normal a w) : (Code.region 9 (regOps Tryd.f7 9) true).wp Tryd.prog Q a0 w0 := by
  refine region_ts (n := 30) [Sp.rel o.pr, Sp.val (.int .i64 (chk o.pr.n o.pr.rows)), Sp.val (.bool false), Sp.val (.bool false), Sp.top, Sp.top, Sp.top, Sp.top, Sp.top, Sp.val (.bool false), Sp.val (.bool false), Sp.top, Sp.top, Sp.top, Sp.top, Sp.top, Sp.top, Sp.top, Sp.top, Sp.top, Sp.val (.bool false), Sp.val (.bool false), Sp.top, Sp.top, Sp.top, Sp.top, Sp.top, Sp.top, Sp.top, Sp.val (.bool false)] w0 (by kernel_rfl) (by rw [hsz]; kernel_rfl) (by kernel_rfl) (by kernel_rfl) (by kernel_rfl) (by kernel_rfl) ?steps ?fin
  case steps =>
    refine ⟨⟨⟨⟨⟨⟨⟨⟨⟨⟨⟨⟨⟨⟨⟨⟨⟨⟨⟨⟨⟨⟨⟨⟨⟨⟨⟨⟨⟨⟨trivial, ?s0⟩, ?s1⟩, ?s2⟩, ?s3⟩, ?s4⟩, ?s5⟩, ?s6⟩, ?s7⟩, ?s8⟩, ?s9⟩, ?s10⟩, ?s11⟩, ?s12⟩, ?s13⟩, ?s14⟩, ?s15⟩, ?s16⟩, ?s17⟩, ?s18⟩, ?s19⟩, ?s20⟩, ?s21⟩, ?s22⟩, ?s23⟩, ?s24⟩, ?s25⟩, ?s26⟩, ?s27⟩, ?s28⟩, ?s29⟩
    case s0 =>
      intro o a w L ho hL haft st
      obtain rfl := Option.some.inj ho
      exact pay_loadR st (want_none rfl) rfl (st.out (by kernel_rfl) x3.1) x3.2.1 x3.2.2.1 x3.2.2.2 rfl
    case s1 =>
      intro o a w L ho hL haft st
      obtain rfl := Option.some.inj ho
      exact call_RV C_Check en_Check hT st (want_none rfl) rfl (st.arg (j := 0) (aft_of haft (by kernel_rfl)) rfl rfl) rfl rfl
    case s2 =>
      intro o a w L ho hL haft st
      obtain rfl := Option.some.inj ho
      exact pay_run st (want_none rfl) ((run_eqE rfl (st.arg (j := 1) (aft_of haft (by kernel_rfl)) rfl rfl) rfl).trans (okB hc)) rfl
    case s3 =>
      intro o a w L ho hL haft st
      obtain rfl := Option.some.inj ho
      exact pay_move st (want_none rfl) rfl (show Sp.holds (Sp.val (.bool false)) _ _ _ from (st.arg (j := 2) (aft_of haft (by kernel_rfl)) rfl rfl)) rfl rfl
    case s4 =>
      intro o a w L ho hL haft st
      obtain rfl := Option.some.inj ho
      exact st.skip haft rfl (by kernel_rfl) rfl rfl
    case s5 =>
      intro o a w L ho hL haft st
      obtain rfl := Option.some.inj ho
      exact st.skip haft rfl (by kernel_rfl) rfl rfl
    case s6 =>
      intro o a w L ho hL haft st
      obtain rfl := Option.some.inj ho
      exact st.skip haft rfl (by kernel_rfl) rfl rfl
    case s7 =>
      intro o a w L ho hL haft st
      obtain rfl := Option.some.inj ho
      exact st.skip haft rfl (by kernel_rfl) rfl rfl
    case s8 =>
      intro o a w L ho hL haft st
      obtain rfl := Option.some.inj ho
      exact st.skip haft rfl (by kernel_rfl) rfl rfl
    case s9 =>
      intro o a w L ho hL haft st
      obtain rfl := Option.some.inj ho
      exact pay_pick st (want_none rfl) rfl (st.arg (j := 3) (aft_of haft (by kernel_rfl)) rfl rfl) (show Sp.holds (Sp.val (.bool false)) _ _ _ from rfl) rfl rfl
    case s10 =>
      intro o a w L ho hL haft st
      obtain rfl := Option.some.inj ho
      exact pay_move st (want_none rfl) rfl (show Sp.holds (Sp.val (.bool false)) _ _ _ from (st.arg (j := 9) (aft_of haft (by kernel_rfl)) rfl rfl)) rfl rfl
    case s11 =>
      intro o a w L ho hL haft st
      obtain rfl := Option.some.inj ho
      exact st.skip haft rfl (by kernel_rfl) rfl rfl
    case s12 =>
      intro o a w L ho hL haft st
      obtain rfl := Option.some.inj ho
      exact st.skip haft rfl (by kernel_rfl) rfl rfl
    case s13 =>
      intro o a w L ho hL haft st
      obtain rfl := Option.some.inj ho
      exact st.skip haft rfl (by kernel_rfl) rfl rfl
    case s14 =>
      intro o a w L ho hL haft st
      obtain rfl := Option.some.inj ho
      exact st.skip haft rfl (by kernel_rfl) rfl rfl
    case s15 =>
      intro o a w L ho hL haft st
      obtain rfl := Option.some.inj ho
      exact st.skip haft rfl (by kernel_rfl) rfl rfl
    case s16 =>
      intro o a w L ho hL haft st
      obtain rfl := Option.some.inj ho
      exact st.skip haft rfl (by kernel_rfl) rfl rfl
    case s17 =>
      intro o a w L ho hL haft st
      obtain rfl := Option.some.inj ho
      exact st.skip haft rfl (by kernel_rfl) rfl rfl
    case s18 =>
      intro o a w L ho hL haft st
      obtain rfl := Option.some.inj ho
      exact st.skip haft rfl (by kernel_rfl) rfl rfl
    case s19 =>
      intro o a w L ho hL haft st
      obtain rfl := Option.some.inj ho
      exact st.skip haft rfl (by kernel_rfl) rfl rfl
    case s20 =>
      intro o a w L ho hL haft st
      obtain rfl := Option.some.inj ho
      exact pay_pick st (want_none rfl) rfl (st.arg (j := 10) (aft_of haft (by kernel_rfl)) rfl rfl) (show Sp.holds (Sp.val (.bool false)) _ _ _ from rfl) rfl rfl
    case s21 =>
      intro o a w L ho hL haft st
      obtain rfl := Option.some.inj ho
      exact pay_move st (want_none rfl) rfl (show Sp.holds (Sp.val (.bool false)) _ _ _ from (st.arg (j := 20) (aft_of haft (by kernel_rfl)) rfl rfl)) rfl rfl
    case s22 =>
      intro o a w L ho hL haft st
      obtain rfl := Option.some.inj ho
      exact st.skip haft rfl (by kernel_rfl) rfl rfl
    case s23 =>
      intro o a w L ho hL haft st
      obtain rfl := Option.some.inj ho
      exact st.skip haft rfl (by kernel_rfl) rfl rfl
    case s24 =>
      intro o a w L ho hL haft st
      obtain rfl := Option.some.inj ho
      exact st.skip haft rfl (by kernel_rfl) rfl rfl
    case s25 =>
      intro o a w L ho hL haft st
      obtain rfl := Option.some.inj ho
      exact st.skip haft rfl (by kernel_rfl) rfl rfl
    case s26 =>
      intro o a w L ho hL haft st
      obtain rfl := Option.some.inj ho
      exact st.skip haft rfl (by kernel_rfl) rfl rfl
    case s27 =>
      intro o a w L ho hL haft st
      obtain rfl := Option.some.inj ho
      exact st.skip haft rfl (by kernel_rfl) rfl rfl
    case s28 =>
      intro o a w L ho hL haft st
      obtain rfl := Option.some.inj ho
      exact st.skip haft rfl (by kernel_rfl) rfl rfl
    case s29 =>
      intro o a w L ho hL haft st
      obtain rfl := Option.some.inj ho
      exact pay_pick st (want_none rfl) rfl (st.arg (j := 21) (aft_of haft (by kernel_rfl)) rfl rfl) (show Sp.holds (Sp.val (.bool false)) _ _ _ from rfl) rfl rfl
  case fin =>
    intro L a w hL st
    exact hK a w (st.keepV (by kernel_rfl)) (st.arg (j := 29) (hL 29 (by omega)) rfl rfl) st.g
set_option maxRecDepth 100000 in
set_option maxHeartbeats 4000000 in
theorem r9b {Q : Exit → Act → World → Prop} {a0 : Act} {w0 : World} {b2 b3 : Nat} {r o : RA}  (hT : Tab w0) (hsz : a0.tmps.size = 193) (x2 : BoxAt a0 w0 2 b2 r) (x3 : BoxAt a0 w0 3 b3 o) (hc : (chk o.pr.n o.pr.rows == 0) = true) (hn : (o.n == r.n) = false) 
    (hK : ∀ a w, KeepV 99 a0 a → a.eval (.tmp 85) = .bool false → Below w0.heap.size w0 w → Q .normal a w) : (Code.region 9 (regOps Tryd.f7 9) true).wp Tryd.prog Q a0 w0 := by
  refine region_ts (n := 30) [Sp.rel o.pr, Sp.val (.int .i64 (chk o.pr.n o.pr.rows)), Sp.val (.bool true), Sp.val (.bool true), Sp.val (.pointer (some ⟨b3, 0, none⟩)), Sp.val (.int .i64 o.n), Sp.val (.pointer (some ⟨b2, 0, none⟩)), Sp.val (.int .i64 r.n), Sp.val (.bool false), Sp.val (.bool false), Sp.val (.bool false), Sp.top, Sp.top, Sp.top, Sp.top, Sp.top, Sp.top, Sp.top, Sp.top, Sp.top, Sp.val (.bool false), Sp.val (.bool false), Sp.top, Sp.top, Sp.top, Sp.top, Sp.top, Sp.top, Sp.top, Sp.val (.bool false)] w0 (by kernel_rfl) (by rw [hsz]; kernel_rfl) (by kernel_rfl) (by kernel_rfl) (by kernel_rfl) (by kernel_rfl) ?steps ?fin
  case steps =>
    refine ⟨⟨⟨⟨⟨⟨⟨⟨⟨⟨⟨⟨⟨⟨⟨⟨⟨⟨⟨⟨⟨⟨⟨⟨⟨⟨⟨⟨⟨⟨trivial, ?s0⟩, ?s1⟩, ?s2⟩, ?s3⟩, ?s4⟩, ?s5⟩, ?s6⟩, ?s7⟩, ?s8⟩, ?s9⟩, ?s10⟩, ?s11⟩, ?s12⟩, ?s13⟩, ?s14⟩, ?s15⟩, ?s16⟩, ?s17⟩, ?s18⟩, ?s19⟩, ?s20⟩, ?s21⟩, ?s22⟩, ?s23⟩, ?s24⟩, ?s25⟩, ?s26⟩, ?s27⟩, ?s28⟩, ?s29⟩
    case s0 =>
      intro o a w L ho hL haft st
      obtain rfl := Option.some.inj ho
      exact pay_loadR st (want_none rfl) rfl (st.out (by kernel_rfl) x3.1) x3.2.1 x3.2.2.1 x3.2.2.2 rfl
    case s1 =>
      intro o a w L ho hL haft st
      obtain rfl := Option.some.inj ho
      exact call_RV C_Check en_Check hT st (want_none rfl) rfl (st.arg (j := 0) (aft_of haft (by kernel_rfl)) rfl rfl) rfl rfl
    case s2 =>
      intro o a w L ho hL haft st
      obtain rfl := Option.some.inj ho
      exact pay_run st (want_none rfl) ((run_eqE rfl (st.arg (j := 1) (aft_of haft (by kernel_rfl)) rfl rfl) rfl).trans (okB hc)) rfl
    case s3 =>
      intro o a w L ho hL haft st
      obtain rfl := Option.some.inj ho
      exact pay_move st (want_none rfl) rfl (show Sp.holds (Sp.val (.bool true)) _ _ _ from (st.arg (j := 2) (aft_of haft (by kernel_rfl)) rfl rfl)) rfl rfl
    case s4 =>
      intro o a w L ho hL haft st
      obtain rfl := Option.some.inj ho
      exact pay_field st (st.want haft rfl (by kernel_rfl) rfl) rfl (st.out (by kernel_rfl) x3.1) rfl
    case s5 =>
      intro o a w L ho hL haft st
      obtain rfl := Option.some.inj ho
      exact pay_loadN st (st.want haft rfl (by kernel_rfl) rfl) rfl (st.arg (j := 4) (aft_of haft (by kernel_rfl)) rfl rfl) x3.2.1 rfl
    case s6 =>
      intro o a w L ho hL haft st
      obtain rfl := Option.some.inj ho
      exact pay_field st (st.want haft rfl (by kernel_rfl) rfl) rfl (st.out (by kernel_rfl) x2.1) rfl
    case s7 =>
      intro o a w L ho hL haft st
      obtain rfl := Option.some.inj ho
      exact pay_loadN st (st.want haft rfl (by kernel_rfl) rfl) rfl (st.arg (j := 6) (aft_of haft (by kernel_rfl)) rfl rfl) x2.2.1 rfl
    case s8 =>
      intro o a w L ho hL haft st
      obtain rfl := Option.some.inj ho
      exact pay_run st (st.want haft rfl (by kernel_rfl) rfl) ((run_eqI rfl (st.arg (j := 5) (aft_of haft (by kernel_rfl)) rfl rfl) (st.arg (j := 7) (aft_of haft (by kernel_rfl)) rfl rfl)).trans (okB hn)) rfl
    case s9 =>
      intro o a w L ho hL haft st
      obtain rfl := Option.some.inj ho
      exact pay_pick st (want_none rfl) rfl (st.arg (j := 3) (aft_of haft (by kernel_rfl)) rfl rfl) (show Sp.holds (Sp.val (.bool false)) _ _ _ from (st.arg (j := 8) (aft_of haft (by kernel_rfl)) rfl rfl)) rfl rfl
    case s10 =>
      intro o a w L ho hL haft st
      obtain rfl := Option.some.inj ho
      exact pay_move st (want_none rfl) rfl (show Sp.holds (Sp.val (.bool false)) _ _ _ from (st.arg (j := 9) (aft_of haft (by kernel_rfl)) rfl rfl)) rfl rfl
    case s11 =>
      intro o a w L ho hL haft st
      obtain rfl := Option.some.inj ho
      exact st.skip haft rfl (by kernel_rfl) rfl rfl
    case s12 =>
      intro o a w L ho hL haft st
      obtain rfl := Option.some.inj ho
      exact st.skip haft rfl (by kernel_rfl) rfl rfl
    case s13 =>
      intro o a w L ho hL haft st
      obtain rfl := Option.some.inj ho
      exact st.skip haft rfl (by kernel_rfl) rfl rfl
    case s14 =>
      intro o a w L ho hL haft st
      obtain rfl := Option.some.inj ho
      exact st.skip haft rfl (by kernel_rfl) rfl rfl
    case s15 =>
      intro o a w L ho hL haft st
      obtain rfl := Option.some.inj ho
      exact st.skip haft rfl (by kernel_rfl) rfl rfl
    case s16 =>
      intro o a w L ho hL haft st
      obtain rfl := Option.some.inj ho
      exact st.skip haft rfl (by kernel_rfl) rfl rfl
    case s17 =>
      intro o a w L ho hL haft st
      obtain rfl := Option.some.inj ho
      exact st.skip haft rfl (by kernel_rfl) rfl rfl
    case s18 =>
      intro o a w L ho hL haft st
      obtain rfl := Option.some.inj ho
      exact st.skip haft rfl (by kernel_rfl) rfl rfl
    case s19 =>
      intro o a w L ho hL haft st
      obtain rfl := Option.some.inj ho
      exact st.skip haft rfl (by kernel_rfl) rfl rfl
    case s20 =>
      intro o a w L ho hL haft st
      obtain rfl := Option.some.inj ho
      exact pay_pick st (want_none rfl) rfl (st.arg (j := 10) (aft_of haft (by kernel_rfl)) rfl rfl) (show Sp.holds (Sp.val (.bool false)) _ _ _ from rfl) rfl rfl
    case s21 =>
      intro o a w L ho hL haft st
      obtain rfl := Option.some.inj ho
      exact pay_move st (want_none rfl) rfl (show Sp.holds (Sp.val (.bool false)) _ _ _ from (st.arg (j := 20) (aft_of haft (by kernel_rfl)) rfl rfl)) rfl rfl
    case s22 =>
      intro o a w L ho hL haft st
      obtain rfl := Option.some.inj ho
      exact st.skip haft rfl (by kernel_rfl) rfl rfl
    case s23 =>
      intro o a w L ho hL haft st
      obtain rfl := Option.some.inj ho
      exact st.skip haft rfl (by kernel_rfl) rfl rfl
    case s24 =>
      intro o a w L ho hL haft st
      obtain rfl := Option.some.inj ho
      exact st.skip haft rfl (by kernel_rfl) rfl rfl
    case s25 =>
      intro o a w L ho hL haft st
      obtain rfl := Option.some.inj ho
      exact st.skip haft rfl (by kernel_rfl) rfl rfl
    case s26 =>
      intro o a w L ho hL haft st
      obtain rfl := Option.some.inj ho
      exact st.skip haft rfl (by kernel_rfl) rfl rfl
    case s27 =>
      intro o a w L ho hL haft st
      obtain rfl := Option.some.inj ho
      exact st.skip haft rfl (by kernel_rfl) rfl rfl
    case s28 =>
      intro o a w L ho hL haft st
      obtain rfl := Option.some.inj ho
      exact st.skip haft rfl (by kernel_rfl) rfl rfl
    case s29 =>
      intro o a w L ho hL haft st
      obtain rfl := Option.some.inj ho
      exact pay_pick st (want_none rfl) rfl (st.arg (j := 21) (aft_of haft (by kernel_rfl)) rfl rfl) (show Sp.holds (Sp.val (.bool false)) _ _ _ from rfl) rfl rfl
  case fin =>
    intro L a w hL st
    exact hK a w (st.keepV (by kernel_rfl)) (st.arg (j := 29) (hL 29 (by omega)) rfl rfl) st.g
set_option maxRecDepth 100000 in
set_option maxHeartbeats 4000000 in
theorem r9c {Q : Exit → Act → World → Prop} {a0 : Act} {w0 : World} {b2 b3 b6 : Nat} {r o g : RA}  (hT : Tab w0) (hsz : a0.tmps.size = 193) (x2 : BoxAt a0 w0 2 b2 r) (x3 : BoxAt a0 w0 3 b3 o) (x6 : BoxAt a0 w0 6 b6 g) (hc : (chk o.pr.n o.pr.rows == 0) = true) (hn : (o.n == r.n) = true) (hcl : Psame (Por [Pthen [g.pr, g.pr], g.pr]) g.pr = false) 
    (hK : ∀ a w, KeepV 99 a0 a → a.eval (.tmp 85) = .bool false → Below w0.heap.size w0 w → Q .normal a w) : (Code.region 9 (regOps Tryd.f7 9) true).wp Tryd.prog Q a0 w0 := by
  refine region_ts (n := 30) [Sp.rel o.pr, Sp.val (.int .i64 (chk o.pr.n o.pr.rows)), Sp.val (.bool true), Sp.val (.bool true), Sp.val (.pointer (some ⟨b3, 0, none⟩)), Sp.val (.int .i64 o.n), Sp.val (.pointer (some ⟨b2, 0, none⟩)), Sp.val (.int .i64 r.n), Sp.val (.bool true), Sp.val (.bool true), Sp.val (.bool true), Sp.rel g.pr, Sp.rel g.pr, Sp.rels [g.pr, g.pr], Sp.rel (Pthen [g.pr, g.pr]), Sp.rel g.pr, Sp.rels [(Pthen [g.pr, g.pr]), g.pr], Sp.rel (Por [(Pthen [g.pr, g.pr]), g.pr]), Sp.rel g.pr, Sp.val (.bool false), Sp.val (.bool false), Sp.val (.bool false), Sp.top, Sp.top, Sp.top, Sp.top, Sp.top, Sp.top, Sp.top, Sp.val (.bool false)] w0 (by kernel_rfl) (by rw [hsz]; kernel_rfl) (by kernel_rfl) (by kernel_rfl) (by kernel_rfl) (by kernel_rfl) ?steps ?fin
  case steps =>
    refine ⟨⟨⟨⟨⟨⟨⟨⟨⟨⟨⟨⟨⟨⟨⟨⟨⟨⟨⟨⟨⟨⟨⟨⟨⟨⟨⟨⟨⟨⟨trivial, ?s0⟩, ?s1⟩, ?s2⟩, ?s3⟩, ?s4⟩, ?s5⟩, ?s6⟩, ?s7⟩, ?s8⟩, ?s9⟩, ?s10⟩, ?s11⟩, ?s12⟩, ?s13⟩, ?s14⟩, ?s15⟩, ?s16⟩, ?s17⟩, ?s18⟩, ?s19⟩, ?s20⟩, ?s21⟩, ?s22⟩, ?s23⟩, ?s24⟩, ?s25⟩, ?s26⟩, ?s27⟩, ?s28⟩, ?s29⟩
    case s0 =>
      intro o a w L ho hL haft st
      obtain rfl := Option.some.inj ho
      exact pay_loadR st (want_none rfl) rfl (st.out (by kernel_rfl) x3.1) x3.2.1 x3.2.2.1 x3.2.2.2 rfl
    case s1 =>
      intro o a w L ho hL haft st
      obtain rfl := Option.some.inj ho
      exact call_RV C_Check en_Check hT st (want_none rfl) rfl (st.arg (j := 0) (aft_of haft (by kernel_rfl)) rfl rfl) rfl rfl
    case s2 =>
      intro o a w L ho hL haft st
      obtain rfl := Option.some.inj ho
      exact pay_run st (want_none rfl) ((run_eqE rfl (st.arg (j := 1) (aft_of haft (by kernel_rfl)) rfl rfl) rfl).trans (okB hc)) rfl
    case s3 =>
      intro o a w L ho hL haft st
      obtain rfl := Option.some.inj ho
      exact pay_move st (want_none rfl) rfl (show Sp.holds (Sp.val (.bool true)) _ _ _ from (st.arg (j := 2) (aft_of haft (by kernel_rfl)) rfl rfl)) rfl rfl
    case s4 =>
      intro o a w L ho hL haft st
      obtain rfl := Option.some.inj ho
      exact pay_field st (st.want haft rfl (by kernel_rfl) rfl) rfl (st.out (by kernel_rfl) x3.1) rfl
    case s5 =>
      intro o a w L ho hL haft st
      obtain rfl := Option.some.inj ho
      exact pay_loadN st (st.want haft rfl (by kernel_rfl) rfl) rfl (st.arg (j := 4) (aft_of haft (by kernel_rfl)) rfl rfl) x3.2.1 rfl
    case s6 =>
      intro o a w L ho hL haft st
      obtain rfl := Option.some.inj ho
      exact pay_field st (st.want haft rfl (by kernel_rfl) rfl) rfl (st.out (by kernel_rfl) x2.1) rfl
    case s7 =>
      intro o a w L ho hL haft st
      obtain rfl := Option.some.inj ho
      exact pay_loadN st (st.want haft rfl (by kernel_rfl) rfl) rfl (st.arg (j := 6) (aft_of haft (by kernel_rfl)) rfl rfl) x2.2.1 rfl
    case s8 =>
      intro o a w L ho hL haft st
      obtain rfl := Option.some.inj ho
      exact pay_run st (st.want haft rfl (by kernel_rfl) rfl) ((run_eqI rfl (st.arg (j := 5) (aft_of haft (by kernel_rfl)) rfl rfl) (st.arg (j := 7) (aft_of haft (by kernel_rfl)) rfl rfl)).trans (okB hn)) rfl
    case s9 =>
      intro o a w L ho hL haft st
      obtain rfl := Option.some.inj ho
      exact pay_pick st (want_none rfl) rfl (st.arg (j := 3) (aft_of haft (by kernel_rfl)) rfl rfl) (show Sp.holds (Sp.val (.bool true)) _ _ _ from (st.arg (j := 8) (aft_of haft (by kernel_rfl)) rfl rfl)) rfl rfl
    case s10 =>
      intro o a w L ho hL haft st
      obtain rfl := Option.some.inj ho
      exact pay_move st (want_none rfl) rfl (show Sp.holds (Sp.val (.bool true)) _ _ _ from (st.arg (j := 9) (aft_of haft (by kernel_rfl)) rfl rfl)) rfl rfl
    case s11 =>
      intro o a w L ho hL haft st
      obtain rfl := Option.some.inj ho
      exact pay_loadR st (st.want haft rfl (by kernel_rfl) rfl) rfl (st.out (by kernel_rfl) x6.1) x6.2.1 x6.2.2.1 x6.2.2.2 rfl
    case s12 =>
      intro o a w L ho hL haft st
      obtain rfl := Option.some.inj ho
      exact pay_loadR st (st.want haft rfl (by kernel_rfl) rfl) rfl (st.out (by kernel_rfl) x6.1) x6.2.1 x6.2.2.1 x6.2.2.2 rfl
    case s13 =>
      intro o a w L ho hL haft st
      obtain rfl := Option.some.inj ho
      exact pay_rels2 st (st.want haft rfl (by kernel_rfl) rfl) rfl (st.arg (j := 11) (aft_of haft (by kernel_rfl)) rfl rfl) (st.arg (j := 12) (aft_of haft (by kernel_rfl)) rfl rfl) rfl
    case s14 =>
      intro o a w L ho hL haft st
      obtain rfl := Option.some.inj ho
      exact call_LR C_Then en_Then hT st (st.want haft rfl (by kernel_rfl) rfl) rfl (st.arg (j := 13) (aft_of haft (by kernel_rfl)) rfl rfl) (by simp) rfl rfl (short_then _)
    case s15 =>
      intro o a w L ho hL haft st
      obtain rfl := Option.some.inj ho
      exact pay_loadR st (st.want haft rfl (by kernel_rfl) rfl) rfl (st.out (by kernel_rfl) x6.1) x6.2.1 x6.2.2.1 x6.2.2.2 rfl
    case s16 =>
      intro o a w L ho hL haft st
      obtain rfl := Option.some.inj ho
      exact pay_rels2 st (st.want haft rfl (by kernel_rfl) rfl) rfl (st.arg (j := 14) (aft_of haft (by kernel_rfl)) rfl rfl) (st.arg (j := 15) (aft_of haft (by kernel_rfl)) rfl rfl) rfl
    case s17 =>
      intro o a w L ho hL haft st
      obtain rfl := Option.some.inj ho
      exact call_LR C_Or en_Or hT st (st.want haft rfl (by kernel_rfl) rfl) rfl (st.arg (j := 16) (aft_of haft (by kernel_rfl)) rfl rfl) (by simp) rfl rfl (short_or _)
    case s18 =>
      intro o a w L ho hL haft st
      obtain rfl := Option.some.inj ho
      exact pay_loadR st (st.want haft rfl (by kernel_rfl) rfl) rfl (st.out (by kernel_rfl) x6.1) x6.2.1 x6.2.2.1 x6.2.2.2 rfl
    case s19 =>
      intro o a w L ho hL haft st
      obtain rfl := Option.some.inj ho
      exact call_RRB C_Same en_Same st (st.want haft rfl (by kernel_rfl) rfl) rfl (st.arg (j := 17) (aft_of haft (by kernel_rfl)) rfl rfl) (st.arg (j := 18) (aft_of haft (by kernel_rfl)) rfl rfl) rfl hcl
    case s20 =>
      intro o a w L ho hL haft st
      obtain rfl := Option.some.inj ho
      exact pay_pick st (want_none rfl) rfl (st.arg (j := 10) (aft_of haft (by kernel_rfl)) rfl rfl) (show Sp.holds (Sp.val (.bool false)) _ _ _ from (st.arg (j := 19) (aft_of haft (by kernel_rfl)) rfl rfl)) rfl rfl
    case s21 =>
      intro o a w L ho hL haft st
      obtain rfl := Option.some.inj ho
      exact pay_move st (want_none rfl) rfl (show Sp.holds (Sp.val (.bool false)) _ _ _ from (st.arg (j := 20) (aft_of haft (by kernel_rfl)) rfl rfl)) rfl rfl
    case s22 =>
      intro o a w L ho hL haft st
      obtain rfl := Option.some.inj ho
      exact st.skip haft rfl (by kernel_rfl) rfl rfl
    case s23 =>
      intro o a w L ho hL haft st
      obtain rfl := Option.some.inj ho
      exact st.skip haft rfl (by kernel_rfl) rfl rfl
    case s24 =>
      intro o a w L ho hL haft st
      obtain rfl := Option.some.inj ho
      exact st.skip haft rfl (by kernel_rfl) rfl rfl
    case s25 =>
      intro o a w L ho hL haft st
      obtain rfl := Option.some.inj ho
      exact st.skip haft rfl (by kernel_rfl) rfl rfl
    case s26 =>
      intro o a w L ho hL haft st
      obtain rfl := Option.some.inj ho
      exact st.skip haft rfl (by kernel_rfl) rfl rfl
    case s27 =>
      intro o a w L ho hL haft st
      obtain rfl := Option.some.inj ho
      exact st.skip haft rfl (by kernel_rfl) rfl rfl
    case s28 =>
      intro o a w L ho hL haft st
      obtain rfl := Option.some.inj ho
      exact st.skip haft rfl (by kernel_rfl) rfl rfl
    case s29 =>
      intro o a w L ho hL haft st
      obtain rfl := Option.some.inj ho
      exact pay_pick st (want_none rfl) rfl (st.arg (j := 21) (aft_of haft (by kernel_rfl)) rfl rfl) (show Sp.holds (Sp.val (.bool false)) _ _ _ from rfl) rfl rfl
  case fin =>
    intro L a w hL st
    exact hK a w (st.keepV (by kernel_rfl)) (st.arg (j := 29) (hL 29 (by omega)) rfl rfl) st.g
set_option maxRecDepth 100000 in
set_option maxHeartbeats 4000000 in
theorem r9d {Q : Exit → Act → World → Prop} {a0 : Act} {w0 : World} {b2 b3 b5 b6 : Nat} {r o p g : RA}  (hT : Tab w0) (hsz : a0.tmps.size = 193) (x2 : BoxAt a0 w0 2 b2 r) (x3 : BoxAt a0 w0 3 b3 o) (x5 : BoxAt a0 w0 5 b5 p) (x6 : BoxAt a0 w0 6 b6 g) (hc : (chk o.pr.n o.pr.rows == 0) = true) (hn : (o.n == r.n) = true) (hcl : Psame (Por [Pthen [g.pr, g.pr], g.pr]) g.pr = true) (hle : Psame (Por [p.pr, g.pr]) g.pr = true) 
    (hK : ∀ a w, KeepV 99 a0 a → a.eval (.tmp 85) = .bool false → Below w0.heap.size w0 w → Q .normal a w) : (Code.region 9 (regOps Tryd.f7 9) true).wp Tryd.prog Q a0 w0 := by
  refine region_ts (n := 30) [Sp.rel o.pr, Sp.val (.int .i64 (chk o.pr.n o.pr.rows)), Sp.val (.bool true), Sp.val (.bool true), Sp.val (.pointer (some ⟨b3, 0, none⟩)), Sp.val (.int .i64 o.n), Sp.val (.pointer (some ⟨b2, 0, none⟩)), Sp.val (.int .i64 r.n), Sp.val (.bool true), Sp.val (.bool true), Sp.val (.bool true), Sp.rel g.pr, Sp.rel g.pr, Sp.rels [g.pr, g.pr], Sp.rel (Pthen [g.pr, g.pr]), Sp.rel g.pr, Sp.rels [(Pthen [g.pr, g.pr]), g.pr], Sp.rel (Por [(Pthen [g.pr, g.pr]), g.pr]), Sp.rel g.pr, Sp.val (.bool true), Sp.val (.bool true), Sp.val (.bool true), Sp.rel p.pr, Sp.rel g.pr, Sp.rels [p.pr, g.pr], Sp.rel (Por [p.pr, g.pr]), Sp.rel g.pr, Sp.val (.bool true), Sp.val (.bool false), Sp.val (.bool false)] w0 (by kernel_rfl) (by rw [hsz]; kernel_rfl) (by kernel_rfl) (by kernel_rfl) (by kernel_rfl) (by kernel_rfl) ?steps ?fin
  case steps =>
    refine ⟨⟨⟨⟨⟨⟨⟨⟨⟨⟨⟨⟨⟨⟨⟨⟨⟨⟨⟨⟨⟨⟨⟨⟨⟨⟨⟨⟨⟨⟨trivial, ?s0⟩, ?s1⟩, ?s2⟩, ?s3⟩, ?s4⟩, ?s5⟩, ?s6⟩, ?s7⟩, ?s8⟩, ?s9⟩, ?s10⟩, ?s11⟩, ?s12⟩, ?s13⟩, ?s14⟩, ?s15⟩, ?s16⟩, ?s17⟩, ?s18⟩, ?s19⟩, ?s20⟩, ?s21⟩, ?s22⟩, ?s23⟩, ?s24⟩, ?s25⟩, ?s26⟩, ?s27⟩, ?s28⟩, ?s29⟩
    case s0 =>
      intro o a w L ho hL haft st
      obtain rfl := Option.some.inj ho
      exact pay_loadR st (want_none rfl) rfl (st.out (by kernel_rfl) x3.1) x3.2.1 x3.2.2.1 x3.2.2.2 rfl
    case s1 =>
      intro o a w L ho hL haft st
      obtain rfl := Option.some.inj ho
      exact call_RV C_Check en_Check hT st (want_none rfl) rfl (st.arg (j := 0) (aft_of haft (by kernel_rfl)) rfl rfl) rfl rfl
    case s2 =>
      intro o a w L ho hL haft st
      obtain rfl := Option.some.inj ho
      exact pay_run st (want_none rfl) ((run_eqE rfl (st.arg (j := 1) (aft_of haft (by kernel_rfl)) rfl rfl) rfl).trans (okB hc)) rfl
    case s3 =>
      intro o a w L ho hL haft st
      obtain rfl := Option.some.inj ho
      exact pay_move st (want_none rfl) rfl (show Sp.holds (Sp.val (.bool true)) _ _ _ from (st.arg (j := 2) (aft_of haft (by kernel_rfl)) rfl rfl)) rfl rfl
    case s4 =>
      intro o a w L ho hL haft st
      obtain rfl := Option.some.inj ho
      exact pay_field st (st.want haft rfl (by kernel_rfl) rfl) rfl (st.out (by kernel_rfl) x3.1) rfl
    case s5 =>
      intro o a w L ho hL haft st
      obtain rfl := Option.some.inj ho
      exact pay_loadN st (st.want haft rfl (by kernel_rfl) rfl) rfl (st.arg (j := 4) (aft_of haft (by kernel_rfl)) rfl rfl) x3.2.1 rfl
    case s6 =>
      intro o a w L ho hL haft st
      obtain rfl := Option.some.inj ho
      exact pay_field st (st.want haft rfl (by kernel_rfl) rfl) rfl (st.out (by kernel_rfl) x2.1) rfl
    case s7 =>
      intro o a w L ho hL haft st
      obtain rfl := Option.some.inj ho
      exact pay_loadN st (st.want haft rfl (by kernel_rfl) rfl) rfl (st.arg (j := 6) (aft_of haft (by kernel_rfl)) rfl rfl) x2.2.1 rfl
    case s8 =>
      intro o a w L ho hL haft st
      obtain rfl := Option.some.inj ho
      exact pay_run st (st.want haft rfl (by kernel_rfl) rfl) ((run_eqI rfl (st.arg (j := 5) (aft_of haft (by kernel_rfl)) rfl rfl) (st.arg (j := 7) (aft_of haft (by kernel_rfl)) rfl rfl)).trans (okB hn)) rfl
    case s9 =>
      intro o a w L ho hL haft st
      obtain rfl := Option.some.inj ho
      exact pay_pick st (want_none rfl) rfl (st.arg (j := 3) (aft_of haft (by kernel_rfl)) rfl rfl) (show Sp.holds (Sp.val (.bool true)) _ _ _ from (st.arg (j := 8) (aft_of haft (by kernel_rfl)) rfl rfl)) rfl rfl
    case s10 =>
      intro o a w L ho hL haft st
      obtain rfl := Option.some.inj ho
      exact pay_move st (want_none rfl) rfl (show Sp.holds (Sp.val (.bool true)) _ _ _ from (st.arg (j := 9) (aft_of haft (by kernel_rfl)) rfl rfl)) rfl rfl
    case s11 =>
      intro o a w L ho hL haft st
      obtain rfl := Option.some.inj ho
      exact pay_loadR st (st.want haft rfl (by kernel_rfl) rfl) rfl (st.out (by kernel_rfl) x6.1) x6.2.1 x6.2.2.1 x6.2.2.2 rfl
    case s12 =>
      intro o a w L ho hL haft st
      obtain rfl := Option.some.inj ho
      exact pay_loadR st (st.want haft rfl (by kernel_rfl) rfl) rfl (st.out (by kernel_rfl) x6.1) x6.2.1 x6.2.2.1 x6.2.2.2 rfl
    case s13 =>
      intro o a w L ho hL haft st
      obtain rfl := Option.some.inj ho
      exact pay_rels2 st (st.want haft rfl (by kernel_rfl) rfl) rfl (st.arg (j := 11) (aft_of haft (by kernel_rfl)) rfl rfl) (st.arg (j := 12) (aft_of haft (by kernel_rfl)) rfl rfl) rfl
    case s14 =>
      intro o a w L ho hL haft st
      obtain rfl := Option.some.inj ho
      exact call_LR C_Then en_Then hT st (st.want haft rfl (by kernel_rfl) rfl) rfl (st.arg (j := 13) (aft_of haft (by kernel_rfl)) rfl rfl) (by simp) rfl rfl (short_then _)
    case s15 =>
      intro o a w L ho hL haft st
      obtain rfl := Option.some.inj ho
      exact pay_loadR st (st.want haft rfl (by kernel_rfl) rfl) rfl (st.out (by kernel_rfl) x6.1) x6.2.1 x6.2.2.1 x6.2.2.2 rfl
    case s16 =>
      intro o a w L ho hL haft st
      obtain rfl := Option.some.inj ho
      exact pay_rels2 st (st.want haft rfl (by kernel_rfl) rfl) rfl (st.arg (j := 14) (aft_of haft (by kernel_rfl)) rfl rfl) (st.arg (j := 15) (aft_of haft (by kernel_rfl)) rfl rfl) rfl
    case s17 =>
      intro o a w L ho hL haft st
      obtain rfl := Option.some.inj ho
      exact call_LR C_Or en_Or hT st (st.want haft rfl (by kernel_rfl) rfl) rfl (st.arg (j := 16) (aft_of haft (by kernel_rfl)) rfl rfl) (by simp) rfl rfl (short_or _)
    case s18 =>
      intro o a w L ho hL haft st
      obtain rfl := Option.some.inj ho
      exact pay_loadR st (st.want haft rfl (by kernel_rfl) rfl) rfl (st.out (by kernel_rfl) x6.1) x6.2.1 x6.2.2.1 x6.2.2.2 rfl
    case s19 =>
      intro o a w L ho hL haft st
      obtain rfl := Option.some.inj ho
      exact call_RRB C_Same en_Same st (st.want haft rfl (by kernel_rfl) rfl) rfl (st.arg (j := 17) (aft_of haft (by kernel_rfl)) rfl rfl) (st.arg (j := 18) (aft_of haft (by kernel_rfl)) rfl rfl) rfl hcl
    case s20 =>
      intro o a w L ho hL haft st
      obtain rfl := Option.some.inj ho
      exact pay_pick st (want_none rfl) rfl (st.arg (j := 10) (aft_of haft (by kernel_rfl)) rfl rfl) (show Sp.holds (Sp.val (.bool true)) _ _ _ from (st.arg (j := 19) (aft_of haft (by kernel_rfl)) rfl rfl)) rfl rfl
    case s21 =>
      intro o a w L ho hL haft st
      obtain rfl := Option.some.inj ho
      exact pay_move st (want_none rfl) rfl (show Sp.holds (Sp.val (.bool true)) _ _ _ from (st.arg (j := 20) (aft_of haft (by kernel_rfl)) rfl rfl)) rfl rfl
    case s22 =>
      intro o a w L ho hL haft st
      obtain rfl := Option.some.inj ho
      exact pay_loadR st (st.want haft rfl (by kernel_rfl) rfl) rfl (st.out (by kernel_rfl) x5.1) x5.2.1 x5.2.2.1 x5.2.2.2 rfl
    case s23 =>
      intro o a w L ho hL haft st
      obtain rfl := Option.some.inj ho
      exact pay_loadR st (st.want haft rfl (by kernel_rfl) rfl) rfl (st.out (by kernel_rfl) x6.1) x6.2.1 x6.2.2.1 x6.2.2.2 rfl
    case s24 =>
      intro o a w L ho hL haft st
      obtain rfl := Option.some.inj ho
      exact pay_rels2 st (st.want haft rfl (by kernel_rfl) rfl) rfl (st.arg (j := 22) (aft_of haft (by kernel_rfl)) rfl rfl) (st.arg (j := 23) (aft_of haft (by kernel_rfl)) rfl rfl) rfl
    case s25 =>
      intro o a w L ho hL haft st
      obtain rfl := Option.some.inj ho
      exact call_LR C_Or en_Or hT st (st.want haft rfl (by kernel_rfl) rfl) rfl (st.arg (j := 24) (aft_of haft (by kernel_rfl)) rfl rfl) (by simp) rfl rfl (short_or _)
    case s26 =>
      intro o a w L ho hL haft st
      obtain rfl := Option.some.inj ho
      exact pay_loadR st (st.want haft rfl (by kernel_rfl) rfl) rfl (st.out (by kernel_rfl) x6.1) x6.2.1 x6.2.2.1 x6.2.2.2 rfl
    case s27 =>
      intro o a w L ho hL haft st
      obtain rfl := Option.some.inj ho
      exact call_RRB C_Same en_Same st (st.want haft rfl (by kernel_rfl) rfl) rfl (st.arg (j := 25) (aft_of haft (by kernel_rfl)) rfl rfl) (st.arg (j := 26) (aft_of haft (by kernel_rfl)) rfl rfl) rfl hle
    case s28 =>
      intro o a w L ho hL haft st
      obtain rfl := Option.some.inj ho
      exact pay_not st (st.want haft rfl (by kernel_rfl) rfl) rfl (st.arg (j := 27) (aft_of haft (by kernel_rfl)) rfl rfl) rfl
    case s29 =>
      intro o a w L ho hL haft st
      obtain rfl := Option.some.inj ho
      exact pay_pick st (want_none rfl) rfl (st.arg (j := 21) (aft_of haft (by kernel_rfl)) rfl rfl) (show Sp.holds (Sp.val (.bool false)) _ _ _ from (st.arg (j := 28) (aft_of haft (by kernel_rfl)) rfl rfl)) rfl rfl
  case fin =>
    intro L a w hL st
    exact hK a w (st.keepV (by kernel_rfl)) (st.arg (j := 29) (hL 29 (by omega)) rfl rfl) st.g
set_option maxRecDepth 100000 in
set_option maxHeartbeats 4000000 in
theorem r12 {Q : Exit → Act → World → Prop} {a0 : Act} {w0 : World} {b2 b5 : Nat} {r p : RA}  (hT : Tab w0) (hsz : a0.tmps.size = 193) (x2 : BoxAt a0 w0 2 b2 r) (x5 : BoxAt a0 w0 5 b5 p)  
    (hK : ∀ a w, KeepV 9 a0 a → AStored (a.eval (.tmp 9)) (Pand p.pr (Pself r.n)) w → Below w0.heap.size w0 w → Q .normal a w) : (Code.region 12 (regOps Tryd.f7 12) true).wp Tryd.prog Q a0 w0 := by
  refine region_ts (n := 7) [Sp.rel p.pr, Sp.val (.pointer (some ⟨b2, 0, none⟩)), Sp.val (.int .i64 r.n), Sp.rel (Pself r.n), Sp.rel (Pand p.pr (Pself r.n)), Sp.box w0.heap.size, Sp.stored 5 (Pand p.pr (Pself r.n))] w0 (by kernel_rfl) (by rw [hsz]; kernel_rfl) (by kernel_rfl) (by kernel_rfl) (by kernel_rfl) (by kernel_rfl) ?steps ?fin
  case steps =>
    refine ⟨⟨⟨⟨⟨⟨⟨trivial, ?s0⟩, ?s1⟩, ?s2⟩, ?s3⟩, ?s4⟩, ?s5⟩, ?s6⟩
    case s0 =>
      intro o a w L ho hL haft st
      obtain rfl := Option.some.inj ho
      exact pay_loadR st (want_none rfl) rfl (st.out (by kernel_rfl) x5.1) x5.2.1 x5.2.2.1 x5.2.2.2 rfl
    case s1 =>
      intro o a w L ho hL haft st
      obtain rfl := Option.some.inj ho
      exact pay_field st (want_none rfl) rfl (st.out (by kernel_rfl) x2.1) rfl
    case s2 =>
      intro o a w L ho hL haft st
      obtain rfl := Option.some.inj ho
      exact pay_loadN st (want_none rfl) rfl (st.arg (j := 1) (aft_of haft (by kernel_rfl)) rfl rfl) x2.2.1 rfl
    case s3 =>
      intro o a w L ho hL haft st
      obtain rfl := Option.some.inj ho
      exact call_IR C_Self en_Self st (want_none rfl) rfl (st.arg (j := 2) (aft_of haft (by kernel_rfl)) rfl rfl) rfl rfl (short_self _)
    case s4 =>
      intro o a w L ho hL haft st
      obtain rfl := Option.some.inj ho
      exact call_RRR C_And en_And hT st (want_none rfl) rfl (st.arg (j := 0) (aft_of haft (by kernel_rfl)) rfl rfl) (st.arg (j := 3) (aft_of haft (by kernel_rfl)) rfl rfl) rfl rfl (short_and _ _)
    case s5 =>
      intro o a w L ho hL haft st
      obtain rfl := Option.some.inj ho
      exact pay_allocR st (want_none rfl) rfl rfl
    case s6 =>
      intro o a w L ho hL haft st
      obtain rfl := Option.some.inj ho
      exact pay_store (k := 5) st haft (want_none rfl) rfl rfl rfl (by kernel_rfl) rfl (by decide) (st.arg (j := 4) (aft_of haft (by kernel_rfl)) rfl rfl) rfl (by kernel_rfl) rfl
  case fin =>
    intro L a w hL st
    exact hK a w (st.keepV (by kernel_rfl)) (st.arg_stored (j := 6) (hL 6 (by omega)) rfl rfl) st.g
set_option maxRecDepth 100000 in
set_option maxHeartbeats 4000000 in
theorem r13 {Q : Exit → Act → World → Prop} {a0 : Act} {w0 : World} {b2 b9 : Nat} {r d : RA} {b : Bool} (hT : Tab w0) (hsz : a0.tmps.size = 193) (x2 : BoxAt a0 w0 2 b2 r) (x9 : BoxAt a0 w0 9 b9 d) (h8 : a0.tmps[8]? = some (.bool b)) (hrd : Psame d.pr (Pnone r.n) = b) (hac : Pacyclic r.pr = b) 
    (hK : ∀ a w, KeepV 99 a0 a → a.eval (.tmp 108) = .bool false → Below w0.heap.size w0 w → Q .normal a w) : (Code.region 13 (regOps Tryd.f7 13) true).wp Tryd.prog Q a0 w0 := by
  refine region_ts (n := 13) [Sp.val (.bool b), Sp.rel d.pr, Sp.val (.pointer (some ⟨b2, 0, none⟩)), Sp.val (.int .i64 r.n), Sp.rel (Pnone r.n), Sp.val (.bool b), Sp.val (.bool false), Sp.val (.bool false), Sp.val (.bool b), Sp.rel r.pr, Sp.val (.bool b), Sp.val (.bool false), Sp.val (.bool false)] w0 (by kernel_rfl) (by rw [hsz]; kernel_rfl) (by kernel_rfl) (by kernel_rfl) (by kernel_rfl) (by kernel_rfl) ?steps ?fin
  case steps =>
    refine ⟨⟨⟨⟨⟨⟨⟨⟨⟨⟨⟨⟨⟨trivial, ?s0⟩, ?s1⟩, ?s2⟩, ?s3⟩, ?s4⟩, ?s5⟩, ?s6⟩, ?s7⟩, ?s8⟩, ?s9⟩, ?s10⟩, ?s11⟩, ?s12⟩
    case s0 =>
      intro o a w L ho hL haft st
      obtain rfl := Option.some.inj ho
      exact pay_move st (want_none rfl) rfl (show Sp.holds (Sp.val (.bool b)) _ _ _ from (st.out (by kernel_rfl) h8)) rfl rfl
    case s1 =>
      intro o a w L ho hL haft st
      obtain rfl := Option.some.inj ho
      exact pay_loadR st (want_none rfl) rfl (st.out (by kernel_rfl) x9.1) x9.2.1 x9.2.2.1 x9.2.2.2 rfl
    case s2 =>
      intro o a w L ho hL haft st
      obtain rfl := Option.some.inj ho
      exact pay_field st (want_none rfl) rfl (st.out (by kernel_rfl) x2.1) rfl
    case s3 =>
      intro o a w L ho hL haft st
      obtain rfl := Option.some.inj ho
      exact pay_loadN st (want_none rfl) rfl (st.arg (j := 2) (aft_of haft (by kernel_rfl)) rfl rfl) x2.2.1 rfl
    case s4 =>
      intro o a w L ho hL haft st
      obtain rfl := Option.some.inj ho
      exact call_IR C_None en_None st (want_none rfl) rfl (st.arg (j := 3) (aft_of haft (by kernel_rfl)) rfl rfl) rfl rfl (short_none _)
    case s5 =>
      intro o a w L ho hL haft st
      obtain rfl := Option.some.inj ho
      exact call_RRB C_Same en_Same st (want_none rfl) rfl (st.arg (j := 1) (aft_of haft (by kernel_rfl)) rfl rfl) (st.arg (j := 4) (aft_of haft (by kernel_rfl)) rfl rfl) rfl hrd
    case s6 =>
      intro o a w L ho hL haft st
      obtain rfl := Option.some.inj ho
      exact pay_run st (want_none rfl) ((run_neB rfl (st.arg (j := 0) (aft_of haft (by kernel_rfl)) rfl rfl) (st.arg (j := 5) (aft_of haft (by kernel_rfl)) rfl rfl)).trans (okB (by cases b <;> rfl))) rfl
    case s7 =>
      intro o a w L ho hL haft st
      obtain rfl := Option.some.inj ho
      exact pay_move st (want_none rfl) rfl (show Sp.holds (Sp.val (.bool false)) _ _ _ from (st.arg (j := 6) (aft_of haft (by kernel_rfl)) rfl rfl)) rfl rfl
    case s8 =>
      intro o a w L ho hL haft st
      obtain rfl := Option.some.inj ho
      exact pay_move st (st.want haft rfl (by kernel_rfl) rfl) rfl (show Sp.holds (Sp.val (.bool b)) _ _ _ from (st.out (by kernel_rfl) h8)) rfl rfl
    case s9 =>
      intro o a w L ho hL haft st
      obtain rfl := Option.some.inj ho
      exact pay_loadR st (st.want haft rfl (by kernel_rfl) rfl) rfl (st.out (by kernel_rfl) x2.1) x2.2.1 x2.2.2.1 x2.2.2.2 rfl
    case s10 =>
      intro o a w L ho hL haft st
      obtain rfl := Option.some.inj ho
      exact call_RV C_Acyclic en_Acyclic hT st (st.want haft rfl (by kernel_rfl) rfl) rfl (st.arg (j := 9) (aft_of haft (by kernel_rfl)) rfl rfl) rfl (congrArg Value.bool hac)
    case s11 =>
      intro o a w L ho hL haft st
      obtain rfl := Option.some.inj ho
      exact pay_run st (st.want haft rfl (by kernel_rfl) rfl) ((run_neB rfl (st.arg (j := 8) (aft_of haft (by kernel_rfl)) rfl rfl) (st.arg (j := 10) (aft_of haft (by kernel_rfl)) rfl rfl)).trans (okB (by cases b <;> rfl))) rfl
    case s12 =>
      intro o a w L ho hL haft st
      obtain rfl := Option.some.inj ho
      exact pay_pick st (want_none rfl) rfl (st.arg (j := 7) (aft_of haft (by kernel_rfl)) rfl rfl) (show Sp.holds (Sp.val (.bool false)) _ _ _ from (st.arg (j := 11) (aft_of haft (by kernel_rfl)) rfl rfl)) rfl rfl
  case fin =>
    intro L a w hL st
    exact hK a w (st.keepV (by kernel_rfl)) (st.arg (j := 12) (hL 12 (by omega)) rfl rfl) st.g
end Go.Proofs.YtigdecmfieaacaaDoor
