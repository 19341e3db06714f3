/-
  What AstCopyCard stands on, part 8.
-/
import Derived.Test.YtiigncmpbkfhmaaDoorPk7
namespace Go.Proofs.YtiigncmpbkfhmaaDoor
open Go Go.ChangeShapes Go.WideShapes Go.ChangeAt Go.RowKit Go.Joins
theorem cellsOStr : Tryd.prog.cellsOf 9 = 1 := by kernel_rfl
theorem cellsO64 : Tryd.prog.cellsOf 2 = 1 := by kernel_rfl
theorem cellsOE : Tryd.prog.cellsOf 36 = 4 := by kernel_rfl
theorem cellsOS : Tryd.prog.cellsOf 30 = 7 := by kernel_rfl
theorem cellsOD : Tryd.prog.cellsOf 45 = 3 := by kernel_rfl
theorem cellsOEs : Tryd.prog.cellsOf 27 = 1 := by kernel_rfl
theorem cellsOSs : Tryd.prog.cellsOf 28 = 1 := by kernel_rfl
theorem cellsODs : Tryd.prog.cellsOf 22 = 1 := by kernel_rfl
theorem cellsOTs : Tryd.prog.cellsOf 23 = 1 := by kernel_rfl
theorem cellsOP : Tryd.prog.cellsOf 25 = 2 := by kernel_rfl
theorem str_len {s : ByteArray} (h : s.size ≤ maxLen) : s.data.toList.length ≤ 9223372036854775807 := by
  unfold maxLen at h
  have : s.data.toList.length = s.size := Array.length_toList
  omega
section
variable {H : Type} {enc : TypeId × Value → H}
theorem open_rows {T : Type} {W : World} {ty et : TypeId} {fuel : Nat} {cs : List Value} {y : DataW H × List MemPlace} {s : Nat} (cT : T → List Value) (q : T → Prop)
    (hu : Tryd.prog.underlying ty = some (.slice et)) (hs : Tryd.prog.cellsOf et = s) (hlen : ∀ x, (cT x).length = s)
    (ih : ∀ (n : Nat) (cs : List Value) (y : DataW H × List MemPlace), n < fuel → DataW.trod enc Tryd.prog W 0 (fun _ => true) true n et cs = some y → ∃ x : T, cs = cT x ∧ q x)
    (h : DataW.trod enc Tryd.prog W 0 (fun _ => true) true fuel ty cs = some y) :
    ∃ (A : Option Addr) (c : Nat) (l : List T), cs = [.slice A l.length c] ∧ l.length ≤ 9223372036854775807 ∧ ∀ (k : Nat) (x : T), l[k]? = some x → (∃ a, A = some a ∧ CellsAt W (a.add (k * s)) (cT x)) ∧ q x := by
  rcases DataW.trod_slice hu h with ⟨e1, _⟩ | ⟨a, len, cap, elems, rest, n, hf, e1, hx, hb, hl, hm, hlen', hel, _, _⟩
  · exact ⟨none, 0, [], e1, Nat.zero_le _, fun k x hx => by simp at hx⟩
  · have key : ∀ i, i < len → ∃ x : T, CellsAt W (a.add (i * s)) (cT x) ∧ q x := by
      intro i hi
      have h1 := hel i hi
      rw [hs, List.getElem?_eq_getElem (by omega)] at h1
      obtain ⟨cs, hcs, hy⟩ := Option.bind_eq_some_iff.1 h1
      obtain ⟨_, hcl, hcc⟩ := World.cells?_some hcs
      obtain ⟨x, rfl, hq⟩ := ih n cs _ (by omega) hy
      refine ⟨x, fun j u hj => ?_, hq⟩
      have hj4 : j < s := by
        have := (List.getElem?_eq_some_iff.1 hj).1
        rwa [hlen] at this
      rw [hcc j hj4]; exact hj
    obtain ⟨l, hll, hp⟩ := list_gets key
    unfold maxLen at hm
    exact ⟨some a, cap, l, by rw [hll]; exact e1, by omega, fun k x hx => ⟨⟨a, rfl, (hp k x hx).1⟩, (hp k x hx).2⟩⟩
set_option maxRecDepth 100000 in
theorem open_exF {W : World} (fuel : Nat) : ∀ (cs : List Value) (y : DataW H × List MemPlace), DataW.trod enc Tryd.prog W 0 (fun _ => true) true fuel 36 cs = some y → ∃ e : Ex, cs = cE e ∧ ExAt W e := by
  induction fuel using Nat.strongRecOn with
  | ind fuel ih =>
    intro cs y h
    obtain ⟨xs, m, hm, _, hl, hlen, hf⟩ := DataW.trod_struct Tryd.underlying36 h
    have g0 := hf 0 _ rfl
    have g1 := hf 1 _ rfl
    have g2 := hf 2 _ rfl
    have g3 := hf 3 _ rfl
    have hlen : xs.length = 4 := hlen
    rw [cellsOE] at hl
    match xs, hlen, g0, g1, g2, g3 with
    | [x0, x1, x2, x3], _, g0, g1, g2, g3 =>
      obtain ⟨k, q0, _, _⟩ := DataW.trod_int Tryd.underlying3 g0
      obtain ⟨u, q1, _, _⟩ := DataW.trod_int Tryd.underlying2 g1
      obtain ⟨s, q2, _, hs⟩ := DataW.trod_string Tryd.underlying9 g2
      obtain ⟨A, c, l, q3, hll, hk⟩ := open_rows cE (ExAt W) Tryd.underlying27 cellsOE (fun _ => rfl) (fun n cs y hn h => ih n (by omega) cs y h) g3
      match cs, hl, q0, q1, q2, q3 with
      | [c0, c1, c2, c3], _, q0, q1, q2, q3 =>
        have e0 : c0 = .int .i64 k := by simpa [cellsI] using q0
        have e1 : c1 = .int .i64 u := by simpa [cellsO64] using q1
        have e2 : c2 = .string s := by simpa [cellsOStr] using q2
        have e3 : c3 = .slice A l.length c := by simpa [cellsOEs] using q3
        refine ⟨.mk k u s.data.toList A c l, by rw [e0, e1, e2, e3]; rfl, .mk _ ⟨str_len hs, hll⟩ (fun k x hx => (hk k x hx).1) fun k x hx => (hk k x hx).2⟩
set_option maxRecDepth 100000 in
theorem open_smF {W : World} (fuel : Nat) : ∀ (cs : List Value) (y : DataW H × List MemPlace), DataW.trod enc Tryd.prog W 0 (fun _ => true) true fuel 30 cs = some y → ∃ s : Sm, cs = cS s ∧ SmAt W s := by
  induction fuel using Nat.strongRecOn with
  | ind fuel ih =>
    intro cs y h
    obtain ⟨xs, m, hm, _, hl, hlen, hf⟩ := DataW.trod_struct Tryd.underlying30 h
    have g0 := hf 0 _ rfl
    have g1 := hf 1 _ rfl
    have g2 := hf 2 _ rfl
    have g3 := hf 3 _ rfl
    have g4 := hf 4 _ rfl
    have g5 := hf 5 _ rfl
    have g6 := hf 6 _ rfl
    have hlen : xs.length = 7 := hlen
    rw [cellsOS] at hl
    match xs, hlen, g0, g1, g2, g3, g4, g5, g6 with
    | [x0, x1, x2, x3, x4, x5, x6], _, g0, g1, g2, g3, g4, g5, g6 =>
      obtain ⟨k, q0, _, _⟩ := DataW.trod_int Tryd.underlying3 g0
      obtain ⟨s, q1, _, hs⟩ := DataW.trod_string Tryd.underlying9 g1
      obtain ⟨u, q2, _, hu⟩ := DataW.trod_string Tryd.underlying9 g2
      obtain ⟨o, q3, _, _⟩ := DataW.trod_int Tryd.underlying3 g3
      obtain ⟨A1, n1, l1, q4, hl1, hk1⟩ := open_rows cE (ExAt W) Tryd.underlying27 cellsOE (fun _ => rfl) (fun n cs y _ h => open_exF n cs y h) g4
      obtain ⟨A2, n2, l2, q5, hl2, hk2⟩ := open_rows cS (SmAt W) Tryd.underlying28 cellsOS (fun _ => rfl) (fun n cs y hn h => ih n (by omega) cs y h) g5
      obtain ⟨A3, n3, l3, q6, hl3, hk3⟩ := open_rows cS (SmAt W) Tryd.underlying28 cellsOS (fun _ => rfl) (fun n cs y hn h => ih n (by omega) cs y h) g6
      match cs, hl, q0, q1, q2, q3, q4, q5, q6 with
      | [c0, c1, c2, c3, c4, c5, c6], _, q0, q1, q2, q3, q4, q5, q6 =>
        have e0 : c0 = .int .i64 k := by simpa [cellsI] using q0
        have e1 : c1 = .string s := by simpa [cellsOStr] using q1
        have e2 : c2 = .string u := by simpa [cellsOStr] using q2
        have e3 : c3 = .int .i64 o := by simpa [cellsI] using q3
        have e4 : c4 = .slice A1 l1.length n1 := by simpa [cellsOEs] using q4
        have e5 : c5 = .slice A2 l2.length n2 := by simpa [cellsOSs] using q5
        have e6 : c6 = .slice A3 l3.length n3 := by simpa [cellsOSs] using q6
        refine ⟨.mk k s.data.toList u.data.toList o A1 n1 l1 A2 n2 l2 A3 n3 l3, by rw [e0, e1, e2, e3, e4, e5, e6]; rfl, .mk _ ⟨str_len hs, str_len hu, hl1, hl2, hl3⟩ (fun k x hx => hk1 k x hx) (fun k x hx => (hk2 k x hx).1) (fun k x hx => (hk2 k x hx).2) (fun k x hx => (hk3 k x hx).1) fun k x hx => (hk3 k x hx).2⟩
set_option maxRecDepth 100000 in
theorem open_dcF {W : World} (fuel : Nat) (cs : List Value) (y : DataW H × List MemPlace) (h : DataW.trod enc Tryd.prog W 0 (fun _ => true) true fuel 45 cs = some y) : ∃ d : Dc, cs = cD d ∧ d.nm.length ≤ 9223372036854775807 := by
  obtain ⟨xs, m, hm, _, hl, hlen, hf⟩ := DataW.trod_struct Tryd.underlying45 h
  have g0 := hf 0 _ rfl
  have g1 := hf 1 _ rfl
  have g2 := hf 2 _ rfl
  have hlen : xs.length = 3 := hlen
  rw [cellsOD] at hl
  match xs, hlen, g0, g1, g2 with
  | [x0, x1, x2], _, g0, g1, g2 =>
    obtain ⟨s, q0, _, hs⟩ := DataW.trod_string Tryd.underlying9 g0
    obtain ⟨b, q1, _⟩ := DataW.trod_bool Tryd.underlying4 g1
    obtain ⟨u, q2, _, _⟩ := DataW.trod_int Tryd.underlying2 g2
    match cs, hl, q0, q1, q2 with
    | [c0, c1, c2], _, q0, q1, q2 =>
      have e0 : c0 = .string s := by simpa [cellsOStr] using q0
      have e1 : c1 = .bool b := by simpa [cellsB] using q1
      have e2 : c2 = .int .i64 u := by simpa [cellsO64] using q2
      exact ⟨⟨s.data.toList, b, u⟩, by rw [e0, e1, e2]; rfl, str_len hs⟩
theorem open_thF {W : World} (fuel : Nat) (cs : List Value) (y : DataW H × List MemPlace) (h : DataW.trod enc Tryd.prog W 0 (fun _ => true) true fuel 28 cs = some y) : ∃ t : Th, cs = cT t ∧ (SmsAt W t.A t.l ∧ t.l.length ≤ 9223372036854775807) := by
  obtain ⟨A, c, l, q, hl, hk⟩ := open_rows cS (SmAt W) Tryd.underlying28 cellsOS (fun _ => rfl) (fun n cs y _ h => open_smF n cs y h) h
  exact ⟨⟨A, c, l⟩, q, fun k x hx => hk k x hx, hl⟩
set_option maxRecDepth 100000 in
theorem open_pg {r : Reach} {W : World} {b0 : Nat} {v : Value} {d : DataW H} {p : List MemPlace} (hv : Value.okWide Tryd.prog W r b0 25 v) (h : DataW.Trod enc Tryd.prog W 0 (fun _ => true) true 25 v d p) :
    ∃ x : Pg, v = vG x ∧ PgAt W x := by
  obtain ⟨vs, rfl, _⟩ := okWide_struct Tryd.underlying25 hv
  obtain ⟨fuel, h⟩ := h
  obtain ⟨xs, m, hm, _, hl, hlen, hf⟩ := DataW.trod_struct Tryd.underlying25 h
  have g0 := hf 0 _ rfl
  have g1 := hf 1 _ rfl
  have hlen : xs.length = 2 := hlen
  rw [cellsOP] at hl
  match xs, hlen, g0, g1 with
  | [x0, x1], _, g0, g1 =>
    obtain ⟨A1, n1, l1, q0, hl1, hk1⟩ := open_rows cD (fun d => d.nm.length ≤ 9223372036854775807) Tryd.underlying22 cellsOD (fun _ => rfl) (fun n cs y _ h => open_dcF n cs y h) g0
    obtain ⟨A2, n2, l2, q1, hl2, hk2⟩ := open_rows cT (fun t => SmsAt W t.A t.l ∧ t.l.length ≤ 9223372036854775807) Tryd.underlying23 cellsOSs (fun _ => rfl) (fun n cs y _ h => open_thF n cs y h) g1
    refine ⟨⟨A1, n1, l1, A2, n2, l2⟩, ?_, ⟨fun k d hd => hk1 k d hd, fun k t ht => ⟨(hk2 k t ht).1, (hk2 k t ht).2.1, (hk2 k t ht).2.2⟩, hl1, hl2⟩⟩
    have hl : vs.toList.length = 2 := hl
    rcases vs with ⟨vs⟩
    match vs, hl, q0, q1 with
    | [c0, c1], _, q0, q1 =>
      have e0 : c0 = .slice A1 l1.length n1 := by simpa [cellsODs, Value.cells] using q0
      have e1 : c1 = .slice A2 l2.length n2 := by simpa [cellsOTs, Value.cells] using q1
      rw [e0, e1]
end
end Go.Proofs.YtiigncmpbkfhmaaDoor
