/-
  Of any three relations of one number that may be, the statement RelAlgebra answers true.
-/
import Derived.Test.YtigdecmfieaacaaDoorLives
import Derived.Test.YtigdecmfieaacaaDoorSpC
import Derived.Test.YtigdecmfieaacaaDoorPure2
namespace Go.Proofs.YtigdecmfieaacaaDoor
open Go Go.RowKit

set_option maxRecDepth 100000 in
set_option maxHeartbeats 4000000 in
theorem alg_ok (a b c : RA) (w : World) (hT : Tab w) (ha : a.good w) (hb : b.good w) (hc : c.good w) (oa : a.pr.ok = true) (ob : b.pr.ok = true) (oc : c.pr.ok = true) (hab : a.n = b.n) (hbc : b.n = c.n) :
    Calls Tryd.prog 6 #[a.val, b.val, c.val] w (Ret w (.bool true)) := by
  have HT := Lib.hid hT
  have aG := Lib.hid ha
  have bG := Lib.hid hb
  have cG := Lib.hid hc
  have aO := Lib.hid oa
  have bO := Lib.hid ob
  have cO := Lib.hid oc
  have HAB := Lib.hid hab
  have HBC := Lib.hid hbc
  have nab : (a.n != b.n) = false := by simp [hab]
  have nbc : (b.n != c.n) = false := by simp [hbc]
  clear hT ha hb hc oa ob oc hab hbc
  have hB0 := below_three w (.cells a.cells.toArray 26) (.cells b.cells.toArray 26) (.cells c.cells.toArray 26)
  have q0 := ((RowT.new w 26 a.cells).alloc (.cells b.cells.toArray 26)).alloc (.cells c.cells.toArray 26)
  have q1 := (RowT.new (w.alloc (.cells a.cells.toArray 26)) 26 b.cells).alloc (.cells c.cells.toArray 26)
  have q2 := RowT.new ((w.alloc (.cells a.cells.toArray 26)).alloc (.cells b.cells.toArray 26)) 26 c.cells
  simp only [World.size_alloc] at q1 q2
  simp only [RA.cells] at hB0 q0 q1 q2
  unfold RA.val
  go_enter Tryd.func6, Tryd.ntmps6
  go_wp2_with (first | (go_at_call 9; refine (lives_yes _ (HT.out.on hB0)).mono ?_; rintro e w1 ⟨rfl, hb1⟩; have hBc := hB0.next hb1; have x0 := q0.below hb1 q0.lt; have x1 := q1.below hb1 q1.lt; have x2 := q2.below hb1 q2.lt; obtain ⟨a0, a1, a2, a3⟩ := x0.two; obtain ⟨b0, b1, b2, b3⟩ := x1.two; obtain ⟨c0, c1, c2, c3⟩ := x2.two) | (go_at_call 16; have _m := w3; refine (check_ok cG.out.1 (cG.out.on hBc).2 cO.out).mono ?_; rintro e w4 ⟨rfl, hb4⟩; replace hBc := hBc.next hb4; replace x0 := x0.below hb4 x0.lt; replace x1 := x1.below hb4 x1.lt; replace x2 := x2.below hb4 x2.lt; obtain ⟨a0, a1, a2, a3⟩ := x0.two; obtain ⟨b0, b1, b2, b3⟩ := x1.two; obtain ⟨c0, c1, c2, c3⟩ := x2.two) | (go_at_call 16; have _m := w2; refine (check_ok bG.out.1 (bG.out.on hBc).2 bO.out).mono ?_; rintro e w3 ⟨rfl, hb3⟩; replace hBc := hBc.next hb3; replace x0 := x0.below hb3 x0.lt; replace x1 := x1.below hb3 x1.lt; replace x2 := x2.below hb3 x2.lt; obtain ⟨a0, a1, a2, a3⟩ := x0.two; obtain ⟨b0, b1, b2, b3⟩ := x1.two; obtain ⟨c0, c1, c2, c3⟩ := x2.two) | (go_at_call 16; refine (check_ok aG.out.1 (aG.out.on hBc).2 aO.out).mono ?_; rintro e w2 ⟨rfl, hb2⟩; replace hBc := hBc.next hb2; replace x0 := x0.below hb2 x0.lt; replace x1 := x1.below hb2 x1.lt; replace x2 := x2.below hb2 x2.lt; obtain ⟨a0, a1, a2, a3⟩ := x0.two; obtain ⟨b0, b1, b2, b3⟩ := x1.two; obtain ⟨c0, c1, c2, c3⟩ := x2.two))
  rename_i K hK
  have SA : Short a.pr := short_ok aO.out
  have SB : Short b.pr := short_ok bO.out
  have SC : Short c.pr := short_ok cO.out
  have ga4 := aG.out.on hBc
  have gb4 := bG.out.on hBc
  have gc4 := cG.out.on hBc
  have HT4 := Lib.hid (HT.out.on hBc)
  have xa4 : RowT w4 w.heap.size 26 a.cells := x0
  have xb4 : RowT w4 (w.heap.size + 1) 26 b.cells := x1
  have xc4 : RowT w4 (w.heap.size + 1 + 1) 26 c.cells := x2
  have ia := IsR.of_ok aO.out
  obtain ⟨N, hN⟩ : ∃ N, a.pr.rows.length = N := ⟨_, rfl⟩
  rw [hN] at ia
  have ib : IsR N _ b.pr := IsR.of_ok' bO.out (HAB.out.symm.trans ia.1)
  have ic : IsR N _ c.pr := IsR.of_ok' cO.out (HBC.out.symm.trans (HAB.out.symm.trans ia.1))
  refine region_ts (n := 9) [Sp.rel a.pr, Sp.rel b.pr, Sp.rels [a.pr, b.pr], Sp.rel (Pthen [a.pr, b.pr]), Sp.rel c.pr, Sp.rels [(Pthen [a.pr, b.pr]), c.pr], Sp.rel (Pthen [(Pthen [a.pr, b.pr]), c.pr]), Sp.box w4.heap.size, Sp.stored 7 (Pthen [(Pthen [a.pr, b.pr]), c.pr])] w4 (by kernel_rfl) (by kernel_rfl) (by kernel_rfl) (by kernel_rfl) (by kernel_rfl) (by kernel_rfl) ?steps ?fin
  case steps =>
    refine ⟨⟨⟨⟨⟨⟨⟨⟨⟨trivial, ?s0⟩, ?s1⟩, ?s2⟩, ?s3⟩, ?s4⟩, ?s5⟩, ?s6⟩, ?s7⟩, ?s8⟩
    case s0 =>
      intro o a w L ho hL haft st
      obtain rfl := Option.some.inj ho
      exact pay_loadR st (want_none rfl) rfl (st.out (by kernel_rfl) rfl) xa4 ga4 SA rfl
    case s1 =>
      intro o a w L ho hL haft st
      obtain rfl := Option.some.inj ho
      exact pay_loadR st (want_none rfl) rfl (st.out (by kernel_rfl) rfl) xb4 gb4 SB rfl
    case s2 =>
      intro o a w L ho hL haft st
      obtain rfl := Option.some.inj ho
      exact pay_rels2 st (want_none rfl) rfl (st.arg (j := 0) (aft_of haft (by kernel_rfl)) rfl rfl) (st.arg (j := 1) (aft_of haft (by kernel_rfl)) rfl rfl) rfl
    case s3 =>
      intro o a w L ho hL haft st
      obtain rfl := Option.some.inj ho
      exact call_LR C_Then en_Then HT4.out st (want_none rfl) rfl (st.arg (j := 2) (aft_of haft (by kernel_rfl)) rfl rfl) (by simp) rfl rfl (short_then _)
    case s4 =>
      intro o a w L ho hL haft st
      obtain rfl := Option.some.inj ho
      exact pay_loadR st (want_none rfl) rfl (st.out (by kernel_rfl) rfl) xc4 gc4 SC rfl
    case s5 =>
      intro o a w L ho hL haft st
      obtain rfl := Option.some.inj ho
      exact pay_rels2 st (want_none rfl) rfl (st.arg (j := 3) (aft_of haft (by kernel_rfl)) rfl rfl) (st.arg (j := 4) (aft_of haft (by kernel_rfl)) rfl rfl) rfl
    case s6 =>
      intro o a w L ho hL haft st
      obtain rfl := Option.some.inj ho
      exact call_LR C_Then en_Then HT4.out st (want_none rfl) rfl (st.arg (j := 5) (aft_of haft (by kernel_rfl)) rfl rfl) (by simp) rfl rfl (short_then _)
    case s7 =>
      intro o a w L ho hL haft st
      obtain rfl := Option.some.inj ho
      exact pay_allocR st (want_none rfl) rfl rfl
    case s8 =>
      intro o a w L ho hL haft st
      obtain rfl := Option.some.inj ho
      exact pay_store (k := 7) st haft (want_none rfl) rfl rfl rfl (by kernel_rfl) rfl (by decide) (st.arg (j := 6) (aft_of haft (by kernel_rfl)) rfl rfl) rfl (by kernel_rfl) rfl
  case fin =>
    intro L5 a5 w5 hL5 st5
    refine hK _ _ ?_
    refine wp_seq ?_
    have ea5 : a5.tmps[3]? = some (.pointer (some ⟨w.heap.size, 0, none⟩)) := (st5.keep (by kernel_rfl)).trans rfl
    have xa5 := xa4.below st5.g xa4.lt
    have ga5 := ga4.on st5.g
    have eb5 : a5.tmps[4]? = some (.pointer (some ⟨w.heap.size + 1, 0, none⟩)) := (st5.keep (by kernel_rfl)).trans rfl
    have xb5 := xb4.below st5.g xb4.lt
    have gb5 := gb4.on st5.g
    have ec5 : a5.tmps[5]? = some (.pointer (some ⟨w.heap.size + 1 + 1, 0, none⟩)) := (st5.keep (by kernel_rfl)).trans rfl
    have xc5 := xc4.below st5.g xc4.lt
    have gc5 := gc4.on st5.g
    have HT5 := Lib.hid (HT4.out.on st5.g)
    obtain ⟨b7, s7, es5', xs5, ps7, gs5, SS7⟩ := st5.arg_stored (j := 8) (hL5 8 (by omega)) rfl rfl
    have es5 := get_of_eval es5'
    have i7 : IsR N _ s7.pr := ps7 ▸ IsR.then2 (IsR.then2 ia ib) ic
    rw [← ps7] at SS7
    refine region_ts (n := 9) [Sp.rel a.pr, Sp.rel b.pr, Sp.rel c.pr, Sp.rels [b.pr, c.pr], Sp.rel (Pthen [b.pr, c.pr]), Sp.rels [a.pr, (Pthen [b.pr, c.pr])], Sp.rel (Pthen [a.pr, (Pthen [b.pr, c.pr])]), Sp.box w5.heap.size, Sp.stored 7 (Pthen [a.pr, (Pthen [b.pr, c.pr])])] w5 (by kernel_rfl) (by rw [st5.size]; kernel_rfl) (by kernel_rfl) (by kernel_rfl) (by kernel_rfl) (by kernel_rfl) ?steps ?fin
    case steps =>
      refine ⟨⟨⟨⟨⟨⟨⟨⟨⟨trivial, ?s0⟩, ?s1⟩, ?s2⟩, ?s3⟩, ?s4⟩, ?s5⟩, ?s6⟩, ?s7⟩, ?s8⟩
      case s0 =>
        intro o a w L ho hL haft st
        obtain rfl := Option.some.inj ho
        exact pay_loadR st (want_none rfl) rfl (st.out (by kernel_rfl) ea5) xa5 ga5 SA rfl
      case s1 =>
        intro o a w L ho hL haft st
        obtain rfl := Option.some.inj ho
        exact pay_loadR st (want_none rfl) rfl (st.out (by kernel_rfl) eb5) xb5 gb5 SB rfl
      case s2 =>
        intro o a w L ho hL haft st
        obtain rfl := Option.some.inj ho
        exact pay_loadR st (want_none rfl) rfl (st.out (by kernel_rfl) ec5) xc5 gc5 SC rfl
      case s3 =>
        intro o a w L ho hL haft st
        obtain rfl := Option.some.inj ho
        exact pay_rels2 st (want_none rfl) rfl (st.arg (j := 1) (aft_of haft (by kernel_rfl)) rfl rfl) (st.arg (j := 2) (aft_of haft (by kernel_rfl)) rfl rfl) rfl
      case s4 =>
        intro o a w L ho hL haft st
        obtain rfl := Option.some.inj ho
        exact call_LR C_Then en_Then HT5.out st (want_none rfl) rfl (st.arg (j := 3) (aft_of haft (by kernel_rfl)) rfl rfl) (by simp) rfl rfl (short_then _)
      case s5 =>
        intro o a w L ho hL haft st
        obtain rfl := Option.some.inj ho
        exact pay_rels2 st (want_none rfl) rfl (st.arg (j := 0) (aft_of haft (by kernel_rfl)) rfl rfl) (st.arg (j := 4) (aft_of haft (by kernel_rfl)) rfl rfl) rfl
      case s6 =>
        intro o a w L ho hL haft st
        obtain rfl := Option.some.inj ho
        exact call_LR C_Then en_Then HT5.out st (want_none rfl) rfl (st.arg (j := 5) (aft_of haft (by kernel_rfl)) rfl rfl) (by simp) rfl rfl (short_then _)
      case s7 =>
        intro o a w L ho hL haft st
        obtain rfl := Option.some.inj ho
        exact pay_allocR st (want_none rfl) rfl rfl
      case s8 =>
        intro o a w L ho hL haft st
        obtain rfl := Option.some.inj ho
        exact pay_store (k := 7) st haft (want_none rfl) rfl rfl rfl (by kernel_rfl) rfl (by decide) (st.arg (j := 6) (aft_of haft (by kernel_rfl)) rfl rfl) rfl (by kernel_rfl) rfl
    case fin =>
      intro L6 a6 w6 hL6 st6
      have ea6 : a6.tmps[3]? = some (.pointer (some ⟨w.heap.size, 0, none⟩)) := (st6.keep (by kernel_rfl)).trans ea5
      have xa6 := xa5.below st6.g xa5.lt
      have ga6 := ga5.on st6.g
      have eb6 : a6.tmps[4]? = some (.pointer (some ⟨w.heap.size + 1, 0, none⟩)) := (st6.keep (by kernel_rfl)).trans eb5
      have xb6 := xb5.below st6.g xb5.lt
      have gb6 := gb5.on st6.g
      have ec6 : a6.tmps[5]? = some (.pointer (some ⟨w.heap.size + 1 + 1, 0, none⟩)) := (st6.keep (by kernel_rfl)).trans ec5
      have xc6 := xc5.below st6.g xc5.lt
      have gc6 := gc5.on st6.g
      have HT6 := Lib.hid (HT5.out.on st6.g)
      have es6 : a6.tmps[7]? = some (.pointer (some ⟨b7, 0, none⟩)) := (st6.keep (by kernel_rfl)).trans es5
      have xs6 := xs5.below st6.g xs5.lt
      have gs6 := gs5.on st6.g
      obtain ⟨b8, s8, et6', xt6, ps8, gt6, SS8⟩ := st6.arg_stored (j := 8) (hL6 8 (by omega)) rfl rfl
      have et6 := get_of_eval et6'
      have i8 : IsR N _ s8.pr := ps8 ▸ IsR.then2 ia (IsR.then2 ib ic)
      rw [← ps8] at SS8
      refine wp_seq ?_
      refine region_ts (n := 9) [Sp.rel a.pr, Sp.rel b.pr, Sp.rel c.pr, Sp.rels [b.pr, c.pr], Sp.rel (Por [b.pr, c.pr]), Sp.rels [a.pr, (Por [b.pr, c.pr])], Sp.rel (Pthen [a.pr, (Por [b.pr, c.pr])]), Sp.box w6.heap.size, Sp.stored 7 (Pthen [a.pr, (Por [b.pr, c.pr])])] w6 (by kernel_rfl) (by rw [st6.size, st5.size]; kernel_rfl) (by kernel_rfl) (by kernel_rfl) (by kernel_rfl) (by kernel_rfl) ?steps ?fin
      case steps =>
        refine ⟨⟨⟨⟨⟨⟨⟨⟨⟨trivial, ?s0⟩, ?s1⟩, ?s2⟩, ?s3⟩, ?s4⟩, ?s5⟩, ?s6⟩, ?s7⟩, ?s8⟩
        case s0 =>
          intro o a w L ho hL haft st
          obtain rfl := Option.some.inj ho
          exact pay_loadR st (want_none rfl) rfl (st.out (by kernel_rfl) ea6) xa6 ga6 SA rfl
        case s1 =>
          intro o a w L ho hL haft st
          obtain rfl := Option.some.inj ho
          exact pay_loadR st (want_none rfl) rfl (st.out (by kernel_rfl) eb6) xb6 gb6 SB rfl
        case s2 =>
          intro o a w L ho hL haft st
          obtain rfl := Option.some.inj ho
          exact pay_loadR st (want_none rfl) rfl (st.out (by kernel_rfl) ec6) xc6 gc6 SC rfl
        case s3 =>
          intro o a w L ho hL haft st
          obtain rfl := Option.some.inj ho
          exact pay_rels2 st (want_none rfl) rfl (st.arg (j := 1) (aft_of haft (by kernel_rfl)) rfl rfl) (st.arg (j := 2) (aft_of haft (by kernel_rfl)) rfl rfl) rfl
        case s4 =>
          intro o a w L ho hL haft st
          obtain rfl := Option.some.inj ho
          exact call_LR C_Or en_Or HT6.out st (want_none rfl) rfl (st.arg (j := 3) (aft_of haft (by kernel_rfl)) rfl rfl) (by simp) rfl rfl (short_or _)
        case s5 =>
          intro o a w L ho hL haft st
          obtain rfl := Option.some.inj ho
          exact pay_rels2 st (want_none rfl) rfl (st.arg (j := 0) (aft_of haft (by kernel_rfl)) rfl rfl) (st.arg (j := 4) (aft_of haft (by kernel_rfl)) rfl rfl) rfl
        case s6 =>
          intro o a w L ho hL haft st
          obtain rfl := Option.some.inj ho
          exact call_LR C_Then en_Then HT6.out st (want_none rfl) rfl (st.arg (j := 5) (aft_of haft (by kernel_rfl)) rfl rfl) (by simp) rfl rfl (short_then _)
        case s7 =>
          intro o a w L ho hL haft st
          obtain rfl := Option.some.inj ho
          exact pay_allocR st (want_none rfl) rfl rfl
        case s8 =>
          intro o a w L ho hL haft st
          obtain rfl := Option.some.inj ho
          exact pay_store (k := 7) st haft (want_none rfl) rfl rfl rfl (by kernel_rfl) rfl (by decide) (st.arg (j := 6) (aft_of haft (by kernel_rfl)) rfl rfl) rfl (by kernel_rfl) rfl
      case fin =>
        intro L7 a7 w7 hL7 st7
        have ea7 : a7.tmps[3]? = some (.pointer (some ⟨w.heap.size, 0, none⟩)) := (st7.keep (by kernel_rfl)).trans ea6
        have xa7 := xa6.below st7.g xa6.lt
        have ga7 := ga6.on st7.g
        have eb7 : a7.tmps[4]? = some (.pointer (some ⟨w.heap.size + 1, 0, none⟩)) := (st7.keep (by kernel_rfl)).trans eb6
        have xb7 := xb6.below st7.g xb6.lt
        have gb7 := gb6.on st7.g
        have ec7 : a7.tmps[5]? = some (.pointer (some ⟨w.heap.size + 1 + 1, 0, none⟩)) := (st7.keep (by kernel_rfl)).trans ec6
        have xc7 := xc6.below st7.g xc6.lt
        have gc7 := gc6.on st7.g
        have HT7 := Lib.hid (HT6.out.on st7.g)
        have es7 : a7.tmps[7]? = some (.pointer (some ⟨b7, 0, none⟩)) := (st7.keep (by kernel_rfl)).trans es6
        have xs7 := xs6.below st7.g xs6.lt
        have gs7 := gs6.on st7.g
        have et7 : a7.tmps[8]? = some (.pointer (some ⟨b8, 0, none⟩)) := (st7.keep (by kernel_rfl)).trans et6
        have xt7 := xt6.below st7.g xt6.lt
        have gt7 := gt6.on st7.g
        obtain ⟨b9, s9, eu7', xu7, ps9, gu7, SS9⟩ := st7.arg_stored (j := 8) (hL7 8 (by omega)) rfl rfl
        have eu7 := get_of_eval eu7'
        have i9 : IsR N _ s9.pr := ps9 ▸ IsR.then2 ia (IsR.or2 ib ic)
        rw [← ps9] at SS9
        have hs2 : Psame s7.pr s8.pr = true := (IsR.same i7 i8).2 (fun i j => ⟨fun ⟨k, ⟨l, h1, h2⟩, h3⟩ => ⟨l, h1, k, h2, h3⟩, fun ⟨l, h1, k, h2, h3⟩ => ⟨k, ⟨l, h1, h2⟩, h3⟩⟩)
        have hs10 : Psame s7.pr (Pthen [a.pr, b.pr, c.pr]) = true := (IsR.same i7 (IsR.then3 ia ib ic)).2 (fun i j => Iff.rfl)
        have hs24 : Psame (Pturn (Pthen [a.pr, b.pr])) (Pthen [(Pturn b.pr), (Pturn a.pr)]) = true := (IsR.same (IsR.turn (IsR.then2 ia ib)) (IsR.then2 (IsR.turn ib) (IsR.turn ia))).2 (fun i j => ⟨fun ⟨k, h1, h2⟩ => ⟨k, h2, h1⟩, fun ⟨k, h1, h2⟩ => ⟨k, h2, h1⟩⟩)
        have hs38 : Psame s9.pr (Por [(Pthen [a.pr, b.pr]), (Pthen [a.pr, c.pr])]) = true := (IsR.same i9 (IsR.or2 (IsR.then2 ia ib) (IsR.then2 ia ic))).2 (fun i j => ⟨fun ⟨k, h, h2⟩ => h2.elim (fun x => .inl ⟨k, h, x⟩) (fun x => .inr ⟨k, h, x⟩), fun h => h.elim (fun ⟨k, h1, h2⟩ => ⟨k, h1, .inl h2⟩) (fun ⟨k, h1, h2⟩ => ⟨k, h1, .inr h2⟩)⟩)
        have hs49 : Psame (Por [a.pr, b.pr]) (Por [b.pr, a.pr]) = true := (IsR.same (IsR.or2 ia ib) (IsR.or2 ib ia)).2 (fun i j => ⟨Or.symm, Or.symm⟩)
        have hs56 : Psame (Pturn (Pturn a.pr)) a.pr = true := (IsR.same (IsR.turn (IsR.turn ia)) ia).2 (fun i j => Iff.rfl)
        have hs66 : Psame (Pthen [(Pself a.n), a.pr]) a.pr = true := by rw [show a.n = (N : Int) from ia.1]; exact (IsR.same (IsR.then2 (IsR.self ia.2.1) ia) ia).2 (fun i j => ⟨fun ⟨k, ⟨e, _⟩, h⟩ => by subst e; exact h, fun h => ⟨i, ⟨rfl, (ia.lt h).1⟩, h⟩⟩)
        refine wp_seq ?_
        refine region_ts (n := 69) [Sp.rel s7.pr, Sp.rel s8.pr, Sp.val (.bool true), Sp.val (.bool true), Sp.rel s7.pr, Sp.rel a.pr, Sp.rel b.pr, Sp.rel c.pr, Sp.rels [a.pr, b.pr, c.pr], Sp.rel (Pthen [a.pr, b.pr, c.pr]), Sp.val (.bool true), Sp.val (.bool true), Sp.val (.bool true), Sp.rel a.pr, Sp.rel b.pr, Sp.rels [a.pr, b.pr], Sp.rel (Pthen [a.pr, b.pr]), Sp.rel (Pturn (Pthen [a.pr, b.pr])), Sp.rel b.pr, Sp.rel (Pturn b.pr), Sp.rel a.pr, Sp.rel (Pturn a.pr), Sp.rels [(Pturn b.pr), (Pturn a.pr)], Sp.rel (Pthen [(Pturn b.pr), (Pturn a.pr)]), Sp.val (.bool true), Sp.val (.bool true), Sp.val (.bool true), Sp.rel s9.pr, Sp.rel a.pr, Sp.rel b.pr, Sp.rels [a.pr, b.pr], Sp.rel (Pthen [a.pr, b.pr]), Sp.rel a.pr, Sp.rel c.pr, Sp.rels [a.pr, c.pr], Sp.rel (Pthen [a.pr, c.pr]), Sp.rels [(Pthen [a.pr, b.pr]), (Pthen [a.pr, c.pr])], Sp.rel (Por [(Pthen [a.pr, b.pr]), (Pthen [a.pr, c.pr])]), Sp.val (.bool true), Sp.val (.bool true), Sp.val (.bool true), Sp.rel a.pr, Sp.rel b.pr, Sp.rels [a.pr, b.pr], Sp.rel (Por [a.pr, b.pr]), Sp.rel b.pr, Sp.rel a.pr, Sp.rels [b.pr, a.pr], Sp.rel (Por [b.pr, a.pr]), Sp.val (.bool true), Sp.val (.bool true), Sp.val (.bool true), Sp.rel a.pr, Sp.rel (Pturn a.pr), Sp.rel (Pturn (Pturn a.pr)), Sp.rel a.pr, Sp.val (.bool true), Sp.val (.bool true), Sp.val (.bool true), Sp.val (.pointer (some ⟨w.heap.size, 0, none⟩)), Sp.val (.int .i64 a.n), Sp.rel (Pself a.n), Sp.rel a.pr, Sp.rels [(Pself a.n), a.pr], Sp.rel (Pthen [(Pself a.n), a.pr]), Sp.rel a.pr, Sp.val (.bool true), Sp.val (.bool true), Sp.val (.bool true)] w7 (by kernel_rfl) (by rw [st7.size, st6.size, st5.size]; kernel_rfl) (by kernel_rfl) (by kernel_rfl) (by kernel_rfl) (by kernel_rfl) ?steps ?fin
        case steps =>
          refine ⟨⟨⟨⟨⟨⟨⟨⟨⟨⟨⟨⟨⟨⟨⟨⟨⟨⟨⟨⟨⟨⟨⟨⟨⟨⟨⟨⟨⟨⟨⟨⟨⟨⟨⟨⟨⟨⟨⟨⟨⟨⟨⟨⟨⟨⟨⟨⟨⟨⟨⟨⟨⟨⟨⟨⟨⟨⟨⟨⟨⟨⟨⟨⟨⟨⟨⟨⟨⟨trivial, ?s0⟩, ?s1⟩, ?s2⟩, ?s3⟩, ?s4⟩, ?s5⟩, ?s6⟩, ?s7⟩, ?s8⟩, ?s9⟩, ?s10⟩, ?s11⟩, ?s12⟩, ?s13⟩, ?s14⟩, ?s15⟩, ?s16⟩, ?s17⟩, ?s18⟩, ?s19⟩, ?s20⟩, ?s21⟩, ?s22⟩, ?s23⟩, ?s24⟩, ?s25⟩, ?s26⟩, ?s27⟩, ?s28⟩, ?s29⟩, ?s30⟩, ?s31⟩, ?s32⟩, ?s33⟩, ?s34⟩, ?s35⟩, ?s36⟩, ?s37⟩, ?s38⟩, ?s39⟩, ?s40⟩, ?s41⟩, ?s42⟩, ?s43⟩, ?s44⟩, ?s45⟩, ?s46⟩, ?s47⟩, ?s48⟩, ?s49⟩, ?s50⟩, ?s51⟩, ?s52⟩, ?s53⟩, ?s54⟩, ?s55⟩, ?s56⟩, ?s57⟩, ?s58⟩, ?s59⟩, ?s60⟩, ?s61⟩, ?s62⟩, ?s63⟩, ?s64⟩, ?s65⟩, ?s66⟩, ?s67⟩, ?s68⟩
          case s0 =>
            intro o a w L ho hL haft st
            obtain rfl := Option.some.inj ho
            exact pay_loadR st (want_none rfl) rfl (st.out (by kernel_rfl) es7) xs7 gs7 SS7 rfl
          case s1 =>
            intro o a w L ho hL haft st
            obtain rfl := Option.some.inj ho
            exact pay_loadR st (want_none rfl) rfl (st.out (by kernel_rfl) et7) xt7 gt7 SS8 rfl
          case s2 =>
            intro o a w L ho hL haft st
            obtain rfl := Option.some.inj ho
            exact call_RRB C_Same en_Same st (want_none rfl) rfl (st.arg (j := 0) (aft_of haft (by kernel_rfl)) rfl rfl) (st.arg (j := 1) (aft_of haft (by kernel_rfl)) rfl rfl) rfl hs2
          case s3 =>
            intro o a w L ho hL haft st
            obtain rfl := Option.some.inj ho
            exact pay_move st (want_none rfl) rfl (show Sp.holds (Sp.val (.bool true)) _ _ _ from (st.arg (j := 2) (aft_of haft (by kernel_rfl)) rfl rfl)) rfl rfl
          case s4 =>
            intro o a w L ho hL haft st
            obtain rfl := Option.some.inj ho
            exact pay_loadR st (st.want haft rfl (by kernel_rfl) rfl) rfl (st.out (by kernel_rfl) es7) xs7 gs7 SS7 rfl
          case s5 =>
            intro o a w L ho hL haft st
            obtain rfl := Option.some.inj ho
            exact pay_loadR st (st.want haft rfl (by kernel_rfl) rfl) rfl (st.out (by kernel_rfl) ea7) xa7 ga7 SA rfl
          case s6 =>
            intro o a w L ho hL haft st
            obtain rfl := Option.some.inj ho
            exact pay_loadR st (st.want haft rfl (by kernel_rfl) rfl) rfl (st.out (by kernel_rfl) eb7) xb7 gb7 SB rfl
          case s7 =>
            intro o a w L ho hL haft st
            obtain rfl := Option.some.inj ho
            exact pay_loadR st (st.want haft rfl (by kernel_rfl) rfl) rfl (st.out (by kernel_rfl) ec7) xc7 gc7 SC rfl
          case s8 =>
            intro o a w L ho hL haft st
            obtain rfl := Option.some.inj ho
            exact pay_rels3 st (st.want haft rfl (by kernel_rfl) rfl) rfl (st.arg (j := 5) (aft_of haft (by kernel_rfl)) rfl rfl) (st.arg (j := 6) (aft_of haft (by kernel_rfl)) rfl rfl) (st.arg (j := 7) (aft_of haft (by kernel_rfl)) rfl rfl) rfl
          case s9 =>
            intro o a w L ho hL haft st
            obtain rfl := Option.some.inj ho
            exact call_LR C_Then en_Then HT7.out st (st.want haft rfl (by kernel_rfl) rfl) rfl (st.arg (j := 8) (aft_of haft (by kernel_rfl)) rfl rfl) (by simp) rfl rfl (short_then _)
          case s10 =>
            intro o a w L ho hL haft st
            obtain rfl := Option.some.inj ho
            exact call_RRB C_Same en_Same st (st.want haft rfl (by kernel_rfl) rfl) rfl (st.arg (j := 4) (aft_of haft (by kernel_rfl)) rfl rfl) (st.arg (j := 9) (aft_of haft (by kernel_rfl)) rfl rfl) rfl hs10
          case s11 =>
            intro o a w L ho hL haft st
            obtain rfl := Option.some.inj ho
            exact pay_pick st (want_none rfl) rfl (st.arg (j := 3) (aft_of haft (by kernel_rfl)) rfl rfl) (show Sp.holds (Sp.val (.bool true)) _ _ _ from (st.arg (j := 10) (aft_of haft (by kernel_rfl)) rfl rfl)) rfl rfl
          case s12 =>
            intro o a w L ho hL haft st
            obtain rfl := Option.some.inj ho
            exact pay_move st (want_none rfl) rfl (show Sp.holds (Sp.val (.bool true)) _ _ _ from (st.arg (j := 11) (aft_of haft (by kernel_rfl)) rfl rfl)) rfl rfl
          case s13 =>
            intro o a w L ho hL haft st
            obtain rfl := Option.some.inj ho
            exact pay_loadR st (st.want haft rfl (by kernel_rfl) rfl) rfl (st.out (by kernel_rfl) ea7) xa7 ga7 SA rfl
          case s14 =>
            intro o a w L ho hL haft st
            obtain rfl := Option.some.inj ho
            exact pay_loadR st (st.want haft rfl (by kernel_rfl) rfl) rfl (st.out (by kernel_rfl) eb7) xb7 gb7 SB rfl
          case s15 =>
            intro o a w L ho hL haft st
            obtain rfl := Option.some.inj ho
            exact pay_rels2 st (st.want haft rfl (by kernel_rfl) rfl) rfl (st.arg (j := 13) (aft_of haft (by kernel_rfl)) rfl rfl) (st.arg (j := 14) (aft_of haft (by kernel_rfl)) rfl rfl) rfl
          case s16 =>
            intro o a w L ho hL haft st
            obtain rfl := Option.some.inj ho
            exact call_LR C_Then en_Then HT7.out st (st.want haft rfl (by kernel_rfl) rfl) rfl (st.arg (j := 15) (aft_of haft (by kernel_rfl)) rfl rfl) (by simp) rfl rfl (short_then _)
          case s17 =>
            intro o a w L ho hL haft st
            obtain rfl := Option.some.inj ho
            exact call_RR C_Turn en_Turn HT7.out st (st.want haft rfl (by kernel_rfl) rfl) rfl (st.arg (j := 16) (aft_of haft (by kernel_rfl)) rfl rfl) rfl rfl (short_turn _)
          case s18 =>
            intro o a w L ho hL haft st
            obtain rfl := Option.some.inj ho
            exact pay_loadR st (st.want haft rfl (by kernel_rfl) rfl) rfl (st.out (by kernel_rfl) eb7) xb7 gb7 SB rfl
          case s19 =>
            intro o a w L ho hL haft st
            obtain rfl := Option.some.inj ho
            exact call_RR C_Turn en_Turn HT7.out st (st.want haft rfl (by kernel_rfl) rfl) rfl (st.arg (j := 18) (aft_of haft (by kernel_rfl)) rfl rfl) rfl rfl (short_turn _)
          case s20 =>
            intro o a w L ho hL haft st
            obtain rfl := Option.some.inj ho
            exact pay_loadR st (st.want haft rfl (by kernel_rfl) rfl) rfl (st.out (by kernel_rfl) ea7) xa7 ga7 SA rfl
          case s21 =>
            intro o a w L ho hL haft st
            obtain rfl := Option.some.inj ho
            exact call_RR C_Turn en_Turn HT7.out st (st.want haft rfl (by kernel_rfl) rfl) rfl (st.arg (j := 20) (aft_of haft (by kernel_rfl)) rfl rfl) rfl rfl (short_turn _)
          case s22 =>
            intro o a w L ho hL haft st
            obtain rfl := Option.some.inj ho
            exact pay_rels2 st (st.want haft rfl (by kernel_rfl) rfl) rfl (st.arg (j := 19) (aft_of haft (by kernel_rfl)) rfl rfl) (st.arg (j := 21) (aft_of haft (by kernel_rfl)) rfl rfl) rfl
          case s23 =>
            intro o a w L ho hL haft st
            obtain rfl := Option.some.inj ho
            exact call_LR C_Then en_Then HT7.out st (st.want haft rfl (by kernel_rfl) rfl) rfl (st.arg (j := 22) (aft_of haft (by kernel_rfl)) rfl rfl) (by simp) rfl rfl (short_then _)
          case s24 =>
            intro o a w L ho hL haft st
            obtain rfl := Option.some.inj ho
            exact call_RRB C_Same en_Same st (st.want haft rfl (by kernel_rfl) rfl) rfl (st.arg (j := 17) (aft_of haft (by kernel_rfl)) rfl rfl) (st.arg (j := 23) (aft_of haft (by kernel_rfl)) rfl rfl) rfl hs24
          case s25 =>
            intro o a w L ho hL haft st
            obtain rfl := Option.some.inj ho
            exact pay_pick st (want_none rfl) rfl (st.arg (j := 12) (aft_of haft (by kernel_rfl)) rfl rfl) (show Sp.holds (Sp.val (.bool true)) _ _ _ from (st.arg (j := 24) (aft_of haft (by kernel_rfl)) rfl rfl)) rfl rfl
          case s26 =>
            intro o a w L ho hL haft st
            obtain rfl := Option.some.inj ho
            exact pay_move st (want_none rfl) rfl (show Sp.holds (Sp.val (.bool true)) _ _ _ from (st.arg (j := 25) (aft_of haft (by kernel_rfl)) rfl rfl)) rfl rfl
          case s27 =>
            intro o a w L ho hL haft st
            obtain rfl := Option.some.inj ho
            exact pay_loadR st (st.want haft rfl (by kernel_rfl) rfl) rfl (st.out (by kernel_rfl) eu7) xu7 gu7 SS9 rfl
          case s28 =>
            intro o a w L ho hL haft st
            obtain rfl := Option.some.inj ho
            exact pay_loadR st (st.want haft rfl (by kernel_rfl) rfl) rfl (st.out (by kernel_rfl) ea7) xa7 ga7 SA rfl
          case s29 =>
            intro o a w L ho hL haft st
            obtain rfl := Option.some.inj ho
            exact pay_loadR st (st.want haft rfl (by kernel_rfl) rfl) rfl (st.out (by kernel_rfl) eb7) xb7 gb7 SB rfl
          case s30 =>
            intro o a w L ho hL haft st
            obtain rfl := Option.some.inj ho
            exact pay_rels2 st (st.want haft rfl (by kernel_rfl) rfl) rfl (st.arg (j := 28) (aft_of haft (by kernel_rfl)) rfl rfl) (st.arg (j := 29) (aft_of haft (by kernel_rfl)) rfl rfl) rfl
          case s31 =>
            intro o a w L ho hL haft st
            obtain rfl := Option.some.inj ho
            exact call_LR C_Then en_Then HT7.out st (st.want haft rfl (by kernel_rfl) rfl) rfl (st.arg (j := 30) (aft_of haft (by kernel_rfl)) rfl rfl) (by simp) rfl rfl (short_then _)
          case s32 =>
            intro o a w L ho hL haft st
            obtain rfl := Option.some.inj ho
            exact pay_loadR st (st.want haft rfl (by kernel_rfl) rfl) rfl (st.out (by kernel_rfl) ea7) xa7 ga7 SA rfl
          case s33 =>
            intro o a w L ho hL haft st
            obtain rfl := Option.some.inj ho
            exact pay_loadR st (st.want haft rfl (by kernel_rfl) rfl) rfl (st.out (by kernel_rfl) ec7) xc7 gc7 SC rfl
          case s34 =>
            intro o a w L ho hL haft st
            obtain rfl := Option.some.inj ho
            exact pay_rels2 st (st.want haft rfl (by kernel_rfl) rfl) rfl (st.arg (j := 32) (aft_of haft (by kernel_rfl)) rfl rfl) (st.arg (j := 33) (aft_of haft (by kernel_rfl)) rfl rfl) rfl
          case s35 =>
            intro o a w L ho hL haft st
            obtain rfl := Option.some.inj ho
            exact call_LR C_Then en_Then HT7.out st (st.want haft rfl (by kernel_rfl) rfl) rfl (st.arg (j := 34) (aft_of haft (by kernel_rfl)) rfl rfl) (by simp) rfl rfl (short_then _)
          case s36 =>
            intro o a w L ho hL haft st
            obtain rfl := Option.some.inj ho
            exact pay_rels2 st (st.want haft rfl (by kernel_rfl) rfl) rfl (st.arg (j := 31) (aft_of haft (by kernel_rfl)) rfl rfl) (st.arg (j := 35) (aft_of haft (by kernel_rfl)) rfl rfl) rfl
          case s37 =>
            intro o a w L ho hL haft st
            obtain rfl := Option.some.inj ho
            exact call_LR C_Or en_Or HT7.out st (st.want haft rfl (by kernel_rfl) rfl) rfl (st.arg (j := 36) (aft_of haft (by kernel_rfl)) rfl rfl) (by simp) rfl rfl (short_or _)
          case s38 =>
            intro o a w L ho hL haft st
            obtain rfl := Option.some.inj ho
            exact call_RRB C_Same en_Same st (st.want haft rfl (by kernel_rfl) rfl) rfl (st.arg (j := 27) (aft_of haft (by kernel_rfl)) rfl rfl) (st.arg (j := 37) (aft_of haft (by kernel_rfl)) rfl rfl) rfl hs38
          case s39 =>
            intro o a w L ho hL haft st
            obtain rfl := Option.some.inj ho
            exact pay_pick st (want_none rfl) rfl (st.arg (j := 26) (aft_of haft (by kernel_rfl)) rfl rfl) (show Sp.holds (Sp.val (.bool true)) _ _ _ from (st.arg (j := 38) (aft_of haft (by kernel_rfl)) rfl rfl)) rfl rfl
          case s40 =>
            intro o a w L ho hL haft st
            obtain rfl := Option.some.inj ho
            exact pay_move st (want_none rfl) rfl (show Sp.holds (Sp.val (.bool true)) _ _ _ from (st.arg (j := 39) (aft_of haft (by kernel_rfl)) rfl rfl)) rfl rfl
          case s41 =>
            intro o a w L ho hL haft st
            obtain rfl := Option.some.inj ho
            exact pay_loadR st (st.want haft rfl (by kernel_rfl) rfl) rfl (st.out (by kernel_rfl) ea7) xa7 ga7 SA rfl
          case s42 =>
            intro o a w L ho hL haft st
            obtain rfl := Option.some.inj ho
            exact pay_loadR st (st.want haft rfl (by kernel_rfl) rfl) rfl (st.out (by kernel_rfl) eb7) xb7 gb7 SB rfl
          case s43 =>
            intro o a w L ho hL haft st
            obtain rfl := Option.some.inj ho
            exact pay_rels2 st (st.want haft rfl (by kernel_rfl) rfl) rfl (st.arg (j := 41) (aft_of haft (by kernel_rfl)) rfl rfl) (st.arg (j := 42) (aft_of haft (by kernel_rfl)) rfl rfl) rfl
          case s44 =>
            intro o a w L ho hL haft st
            obtain rfl := Option.some.inj ho
            exact call_LR C_Or en_Or HT7.out st (st.want haft rfl (by kernel_rfl) rfl) rfl (st.arg (j := 43) (aft_of haft (by kernel_rfl)) rfl rfl) (by simp) rfl rfl (short_or _)
          case s45 =>
            intro o a w L ho hL haft st
            obtain rfl := Option.some.inj ho
            exact pay_loadR st (st.want haft rfl (by kernel_rfl) rfl) rfl (st.out (by kernel_rfl) eb7) xb7 gb7 SB rfl
          case s46 =>
            intro o a w L ho hL haft st
            obtain rfl := Option.some.inj ho
            exact pay_loadR st (st.want haft rfl (by kernel_rfl) rfl) rfl (st.out (by kernel_rfl) ea7) xa7 ga7 SA rfl
          case s47 =>
            intro o a w L ho hL haft st
            obtain rfl := Option.some.inj ho
            exact pay_rels2 st (st.want haft rfl (by kernel_rfl) rfl) rfl (st.arg (j := 45) (aft_of haft (by kernel_rfl)) rfl rfl) (st.arg (j := 46) (aft_of haft (by kernel_rfl)) rfl rfl) rfl
          case s48 =>
            intro o a w L ho hL haft st
            obtain rfl := Option.some.inj ho
            exact call_LR C_Or en_Or HT7.out st (st.want haft rfl (by kernel_rfl) rfl) rfl (st.arg (j := 47) (aft_of haft (by kernel_rfl)) rfl rfl) (by simp) rfl rfl (short_or _)
          case s49 =>
            intro o a w L ho hL haft st
            obtain rfl := Option.some.inj ho
            exact call_RRB C_Same en_Same st (st.want haft rfl (by kernel_rfl) rfl) rfl (st.arg (j := 44) (aft_of haft (by kernel_rfl)) rfl rfl) (st.arg (j := 48) (aft_of haft (by kernel_rfl)) rfl rfl) rfl hs49
          case s50 =>
            intro o a w L ho hL haft st
            obtain rfl := Option.some.inj ho
            exact pay_pick st (want_none rfl) rfl (st.arg (j := 40) (aft_of haft (by kernel_rfl)) rfl rfl) (show Sp.holds (Sp.val (.bool true)) _ _ _ from (st.arg (j := 49) (aft_of haft (by kernel_rfl)) rfl rfl)) rfl rfl
          case s51 =>
            intro o a w L ho hL haft st
            obtain rfl := Option.some.inj ho
            exact pay_move st (want_none rfl) rfl (show Sp.holds (Sp.val (.bool true)) _ _ _ from (st.arg (j := 50) (aft_of haft (by kernel_rfl)) rfl rfl)) rfl rfl
          case s52 =>
            intro o a w L ho hL haft st
            obtain rfl := Option.some.inj ho
            exact pay_loadR st (st.want haft rfl (by kernel_rfl) rfl) rfl (st.out (by kernel_rfl) ea7) xa7 ga7 SA rfl
          case s53 =>
            intro o a w L ho hL haft st
            obtain rfl := Option.some.inj ho
            exact call_RR C_Turn en_Turn HT7.out st (st.want haft rfl (by kernel_rfl) rfl) rfl (st.arg (j := 52) (aft_of haft (by kernel_rfl)) rfl rfl) rfl rfl (short_turn _)
          case s54 =>
            intro o a w L ho hL haft st
            obtain rfl := Option.some.inj ho
            exact call_RR C_Turn en_Turn HT7.out st (st.want haft rfl (by kernel_rfl) rfl) rfl (st.arg (j := 53) (aft_of haft (by kernel_rfl)) rfl rfl) rfl rfl (short_turn _)
          case s55 =>
            intro o a w L ho hL haft st
            obtain rfl := Option.some.inj ho
            exact pay_loadR st (st.want haft rfl (by kernel_rfl) rfl) rfl (st.out (by kernel_rfl) ea7) xa7 ga7 SA rfl
          case s56 =>
            intro o a w L ho hL haft st
            obtain rfl := Option.some.inj ho
            exact call_RRB C_Same en_Same st (st.want haft rfl (by kernel_rfl) rfl) rfl (st.arg (j := 54) (aft_of haft (by kernel_rfl)) rfl rfl) (st.arg (j := 55) (aft_of haft (by kernel_rfl)) rfl rfl) rfl hs56
          case s57 =>
            intro o a w L ho hL haft st
            obtain rfl := Option.some.inj ho
            exact pay_pick st (want_none rfl) rfl (st.arg (j := 51) (aft_of haft (by kernel_rfl)) rfl rfl) (show Sp.holds (Sp.val (.bool true)) _ _ _ from (st.arg (j := 56) (aft_of haft (by kernel_rfl)) rfl rfl)) rfl rfl
          case s58 =>
            intro o a w L ho hL haft st
            obtain rfl := Option.some.inj ho
            exact pay_move st (want_none rfl) rfl (show Sp.holds (Sp.val (.bool true)) _ _ _ from (st.arg (j := 57) (aft_of haft (by kernel_rfl)) rfl rfl)) rfl rfl
          case s59 =>
            intro o a w L ho hL haft st
            obtain rfl := Option.some.inj ho
            exact pay_field st (st.want haft rfl (by kernel_rfl) rfl) rfl (st.out (by kernel_rfl) ea7) rfl
          case s60 =>
            intro o a w L ho hL haft st
            obtain rfl := Option.some.inj ho
            exact pay_loadN st (st.want haft rfl (by kernel_rfl) rfl) rfl (st.arg (j := 59) (aft_of haft (by kernel_rfl)) rfl rfl) xa7 rfl
          case s61 =>
            intro o a w L ho hL haft st
            obtain rfl := Option.some.inj ho
            exact call_IR C_Self en_Self st (st.want haft rfl (by kernel_rfl) rfl) rfl (st.arg (j := 60) (aft_of haft (by kernel_rfl)) rfl rfl) rfl rfl (short_self _)
          case s62 =>
            intro o a w L ho hL haft st
            obtain rfl := Option.some.inj ho
            exact pay_loadR st (st.want haft rfl (by kernel_rfl) rfl) rfl (st.out (by kernel_rfl) ea7) xa7 ga7 SA rfl
          case s63 =>
            intro o a w L ho hL haft st
            obtain rfl := Option.some.inj ho
            exact pay_rels2 st (st.want haft rfl (by kernel_rfl) rfl) rfl (st.arg (j := 61) (aft_of haft (by kernel_rfl)) rfl rfl) (st.arg (j := 62) (aft_of haft (by kernel_rfl)) rfl rfl) rfl
          case s64 =>
            intro o a w L ho hL haft st
            obtain rfl := Option.some.inj ho
            exact call_LR C_Then en_Then HT7.out st (st.want haft rfl (by kernel_rfl) rfl) rfl (st.arg (j := 63) (aft_of haft (by kernel_rfl)) rfl rfl) (by simp) rfl rfl (short_then _)
          case s65 =>
            intro o a w L ho hL haft st
            obtain rfl := Option.some.inj ho
            exact pay_loadR st (st.want haft rfl (by kernel_rfl) rfl) rfl (st.out (by kernel_rfl) ea7) xa7 ga7 SA rfl
          case s66 =>
            intro o a w L ho hL haft st
            obtain rfl := Option.some.inj ho
            exact call_RRB C_Same en_Same st (st.want haft rfl (by kernel_rfl) rfl) rfl (st.arg (j := 64) (aft_of haft (by kernel_rfl)) rfl rfl) (st.arg (j := 65) (aft_of haft (by kernel_rfl)) rfl rfl) rfl hs66
          case s67 =>
            intro o a w L ho hL haft st
            obtain rfl := Option.some.inj ho
            exact pay_pick st (want_none rfl) rfl (st.arg (j := 58) (aft_of haft (by kernel_rfl)) rfl rfl) (show Sp.holds (Sp.val (.bool true)) _ _ _ from (st.arg (j := 66) (aft_of haft (by kernel_rfl)) rfl rfl)) rfl rfl
          case s68 =>
            intro o a w L ho hL haft st
            obtain rfl := Option.some.inj ho
            exact pay_assign st (want_none rfl) rfl (show Sp.holds (Sp.val (.bool true)) _ _ _ from (st.arg (j := 67) (aft_of haft (by kernel_rfl)) rfl rfl)) rfl rfl
        case fin =>
          intro L8 a8 w8 hL8 st8
          refine wp_ret ?_
          exact post_slot rfl (by rw [st8.defers, st7.defers, st6.defers, st5.defers]) (get_of_bool (st8.arg (j := 68) (hL8 68 (by omega)) rfl rfl)) (Ret.b rfl ((((hBc.next st5.g).next st6.g).next st7.g).next st8.g))
end Go.Proofs.YtigdecmfieaacaaDoor
