/-
  Tokens compared; slices of tokens; what All hands back, for its callers; kit.Tokens, lives, fault.
-/
import Derived.Test.YtbcfggdifljacaaDoorLpG
namespace Go.Proofs.YtbcfggdifljacaaDoor
open Go Go.RowKit
section
variable {o : Oper} {ρ : Operand → Value} {w : World}
theorem run_eqlFlt {x y : Operand} {a b c d : Int} {u : TypeId} (hop : o.op = .binOp .eql 24 x y u) (hx : ρ x = .agg #[.int .i64 a, .int .i64 b]) (hy : ρ y = .agg #[.int .i64 c, .int .i64 d]) : (execOp ρ o).run Tryd.prog w = .ok (.value (.bool (decide (a = c) && decide (b = d)))) w := by
  by_cases h1 : a = c <;> by_cases h2 : b = d <;> simp [execOp, hop, hx, hy, go_sem, h1, h2]
theorem run_neqFlt {x y : Operand} {a b c d : Int} {u : TypeId} (hop : o.op = .binOp .neq 24 x y u) (hx : ρ x = .agg #[.int .i64 a, .int .i64 b]) (hy : ρ y = .agg #[.int .i64 c, .int .i64 d]) : (execOp ρ o).run Tryd.prog w = .ok (.value (.bool (!(decide (a = c) && decide (b = d))))) w := by
  by_cases h1 : a = c <;> by_cases h2 : b = d <;> simp [execOp, hop, hx, hy, go_sem, h1, h2]
theorem run_eqlTok {x y : Operand} {k n a k' n' a' : Int} {l l' : List UInt8} {u : TypeId} (hop : o.op = .binOp .eql 35 x y u) (hx : ρ x = .agg #[.int .i64 k, Str l, .int .i64 n, .int .i64 a]) (hy : ρ y = .agg #[.int .i64 k', Str l', .int .i64 n', .int .i64 a']) : (execOp ρ o).run Tryd.prog w = .ok (.value (.bool (decide (k = k') && decide (l = l') && decide (n = n') && decide (a = a')))) w := by
  by_cases h1 : k = k'
  · by_cases h2 : l = l'
    · by_cases h3 : n = n'
      · by_cases h4 : a = a' <;> simp [execOp, hop, hx, hy, go_sem, Str, h1, h2, h3, h4]
      · simp [execOp, hop, hx, hy, go_sem, Str, h1, h2, h3]
    · simp [execOp, hop, hx, hy, go_sem, Str, h1, h2]
  · simp [execOp, hop, hx, hy, go_sem, Str, h1]
theorem run_neqTok {x y : Operand} {k n a k' n' a' : Int} {l l' : List UInt8} {u : TypeId} (hop : o.op = .binOp .neq 35 x y u) (hx : ρ x = .agg #[.int .i64 k, Str l, .int .i64 n, .int .i64 a]) (hy : ρ y = .agg #[.int .i64 k', Str l', .int .i64 n', .int .i64 a']) : (execOp ρ o).run Tryd.prog w = .ok (.value (.bool (!(decide (k = k') && decide (l = l') && decide (n = n') && decide (a = a'))))) w := by
  by_cases h1 : k = k'
  · by_cases h2 : l = l'
    · by_cases h3 : n = n'
      · by_cases h4 : a = a' <;> simp [execOp, hop, hx, hy, go_sem, Str, h1, h2, h3, h4]
      · simp [execOp, hop, hx, hy, go_sem, Str, h1, h2, h3]
    · simp [execOp, hop, hx, hy, go_sem, Str, h1, h2]
  · simp [execOp, hop, hx, hy, go_sem, Str, h1]
/-- An element's address. -/
theorem run_ixA {P : Program} {t e : TypeId} {x y : Operand} {A : Option Addr} {a : Addr} {n c k s : Nat} (hop : o.op = .indexAddr t x y) (hx : ρ x = .slice A n c) (hA : A = some a) (hy : ρ y = .int .i64 ((k : Nat) : Int)) (ht : P.underlying t = some (.slice e)) (hs : (P.info? e).map (·.size) = some s) (hk : k < n) : (execOp ρ o).run P w = .ok (.value (.pointer (some (a.add (k * s))))) w := by
  subst hA
  obtain ⟨i, hi, hs⟩ := Option.map_eq_some_iff.1 hs
  simp [execOp, hop, hx, hy, Instr.indexAt, asIntOf, run_underlying ht, sizeOf, typeInfo, hi, hs, hk]
theorem run_ixG {P : Program} {t e : TypeId} {x y : Operand} {g n c k s : Nat} (hop : o.op = .indexAddr t x y) (hx : ρ x = .slice (some ⟨g, 0, none⟩) n c) (hy : ρ y = .int .i64 ((k : Nat) : Int)) (ht : P.underlying t = some (.slice e)) (hs : (P.info? e).map (·.size) = some s) (hk : k < n) : (execOp ρ o).run P w = .ok (.value (.pointer (some ⟨g, k * s, none⟩))) w := by
  rw [run_ixA hop hx rfl hy ht hs hk, add0]
end
theorem CellsAt.sub {w : World} {g o : Nat} {cs : List Value} (h : CellsAt w ⟨g, o, none⟩ cs) (i m : Nat) : CellsAt w ⟨g, o + i, none⟩ ((cs.drop i).take m) := by
  intro j v hj
  rw [List.getElem?_take] at hj
  split at hj
  · rw [List.getElem?_drop] at hj
    have := h (i + j) v hj
    rw [Addr.add_mid] at this ⊢
    rw [Nat.add_assoc]; exact this
  · cases hj
theorem add_add (a : Addr) {m n : Nat} (hm : 0 < m) : (a.add m).add n = a.add (m + n) := by
  unfold Addr.add
  rw [if_neg (show ¬ m = 0 by omega), if_neg (show ¬ m + n = 0 by omega)]
  by_cases hn : n = 0
  · subst hn; simp
  · rw [if_neg hn]; simp [Nat.add_assoc]
theorem CellsAt.addA {w : World} {a : Addr} {cs : List Value} (h : CellsAt w a cs) (i m : Nat) (hi : 0 < i) : CellsAt w (a.add i) ((cs.drop i).take m) := by
  intro j v hj
  rw [List.getElem?_take] at hj
  split at hj
  · rw [List.getElem?_drop] at hj
    rw [add_add a hi]; exact h (i + j) v hj
  · cases hj
theorem CellsAt.subA {w : World} {a : Addr} {b : Nat} {cs : List Value} (h : CellsAt w (a.add b) cs) (i m : Nat) (hi : 0 < b + i) : CellsAt w (a.add (b + i)) ((cs.drop i).take m) := by
  intro j v hj
  rw [List.getElem?_take] at hj
  split at hj
  · rw [List.getElem?_drop] at hj
    have := h (i + j) v hj
    rw [add_add a hi, Nat.add_assoc]
    rcases Nat.eq_zero_or_pos b with hb | hb
    · subst hb
      rw [show a.add 0 = a from if_pos rfl] at this
      rw [Nat.zero_add]; exact this
    · rw [add_add a hb] at this; exact this
  · cases hj
section
variable {w0 w : World} {its : List It}
theorem Mem.ownCells (hM : Mem w0 w its) (j : Nat) {e : TypeId} {s g n n' c : Nat} {xs : List Value} (hj : its[j]? = some (.own e s (.slice (some ⟨g, 0, none⟩) n c) n' xs)) (k m : Nat) : CellsAt w ⟨g, k, none⟩ ((xs.drop k).take m) := by
  have ho := hM.own j hj
  intro i v hi
  rw [List.getElem?_take] at hi
  split at hi
  · rw [List.getElem?_drop] at hi
    have := ho.cells (g := g) rfl (k + i) v hi
    rw [Addr.add_mid, Nat.zero_add] at this
    rw [Addr.add_mid]; exact this
  · cases hi
end
/-- A token as four cells. -/
abbrev Tk4 := Int × List UInt8 × Int × Int
def tk4 (t : TkAt) : Tk4 := (t.1.1, t.1.2.1, t.1.2.2, ((t.2 : Nat) : Int))
abbrev c4 (t : Tk4) : List Value := tokC t.1 t.2.1 t.2.2.1 t.2.2.2
theorem cells_drop : ∀ (ts : List TkAt) (k : Nat) (t : TkAt), ts[k]? = some t → ((cellsT ts).drop (k * 4)).take 4 = c4 (tk4 t) := by
  intro ts
  induction ts with
  | nil => intro k t h; cases h
  | cons u ts ih =>
    intro k t h
    cases k with
    | zero => obtain rfl := Option.some.inj h; rfl
    | succ k =>
      have := ih k t (by simpa using h)
      rw [← this, show (k + 1) * 4 = 4 + k * 4 by omega, ← List.drop_drop]
      rfl
/-- A slice that reads as these tokens. -/
def SliceAt (w : World) (v : Value) (ts : List Tk4) : Prop := ∃ A n c, v = .slice A n c ∧ n = ts.length ∧ ∀ k t, ts[k]? = some t → ∃ a, A = some a ∧ CellsAt w (a.add (k * 4)) (c4 t)
theorem SliceAt.nil (w : World) : SliceAt w (.slice none 0 0) [] := ⟨none, 0, 0, rfl, rfl, fun k t h => by cases h⟩
theorem Mem.sliceAt {w0 w : World} {its : List It} (hM : Mem w0 w its) (j : Nat) {g n n' c : Nat} {ts : List TkAt} (hj : its[j]? = some (.own 35 4 (.slice (some ⟨g, 0, none⟩) n c) n' (cellsT ts))) (hn : n = ts.length) : SliceAt w (.slice (some ⟨g, 0, none⟩) n c) (ts.map tk4) := by
  refine ⟨_, n, c, rfl, by rw [List.length_map]; exact hn, fun k t h => ⟨_, rfl, ?_⟩⟩
  rw [List.getElem?_map] at h
  obtain ⟨u, hu, rfl⟩ := Option.map_eq_some_iff.1 h
  rw [add0, ← cells_drop ts k u hu]
  exact hM.ownCells j hj _ _
/-- All, where it tells tokens. -/
theorem All_good {f : FuncId} {l : List UInt8} {w0 : World} (hA : Calls Tryd.prog f #[Str l] w0 (AllPost l w0)) (hle : l.length ≤ 65536) {ts : List TkAt} (hx : lexL 0 l = .inr ts) : Calls Tryd.prog f #[Str l] w0 (Gives w0 (fun x : Nat × Nat => .tuple #[.slice (some ⟨x.1, 0, none⟩) (ts ++ [endT l]).length x.2, .agg #[.int .i64 0, .int .i64 0]]) (fun x => [.own 35 4 (.slice (some ⟨x.1, 0, none⟩) (ts ++ [endT l]).length x.2) (ts ++ [endT l]).length (cellsT (ts ++ [endT l]))]) fun _ => True) := by
  refine hA.mono ?_
  intro e w h
  unfold AllPost at h
  rw [if_neg (by omega), hx] at h
  obtain ⟨v, rfl, hm, _⟩ := h
  have ho := hm.own 0 rfl
  rcases ho.2 with ⟨_, h0⟩ | ⟨g, cap, cur, rfl, _⟩
  · rw [List.length_append] at h0; simp at h0
  · exact ⟨(g, cap), rfl, hm, trivial⟩
theorem All_bad {f : FuncId} {l : List UInt8} {w0 : World} (hA : Calls Tryd.prog f #[Str l] w0 (AllPost l w0)) (hle : l.length ≤ 65536) {p : Nat} (hx : lexL 0 l = .inl p) : Calls Tryd.prog f #[Str l] w0 (Ret w0 (.tuple #[.slice none 0 0, .agg #[.int .i64 4, .int .i64 ((p : Nat) : Int)]])) := by
  refine hA.mono ?_
  intro e w h
  unfold AllPost at h
  rw [if_neg (by omega), hx] at h
  exact h
theorem tok_same {t u : Tk4} (h : (!(decide ((t.1 : Int) = u.1) && decide (t.2.1 = u.2.1) && decide ((t.2.2.1 : Int) = u.2.2.1) && decide ((t.2.2.2 : Int) = u.2.2.2))) = false) : t = u := by
  obtain ⟨a, b, c, d⟩ := t
  obtain ⟨a', b', c', d'⟩ := u
  simp at h
  obtain ⟨⟨⟨rfl, rfl⟩, rfl⟩, rfl⟩ := h
  rfl
theorem tok_not {t u : Tk4} (h : (!(decide ((t.1 : Int) = u.1) && decide (t.2.1 = u.2.1) && decide ((t.2.2.1 : Int) = u.2.2.1) && decide ((t.2.2.2 : Int) = u.2.2.2))) = true) : t ≠ u := by
  rintro rfl
  simp at h
theorem len_ne {n m : Nat} (h : (!(decide ((((n : Nat) : Int) : Int) = ((m : Nat) : Int)))) = true) : n ≠ m := by
  rintro rfl; simp at h
theorem toks_same {n m : Nat} {ta tb : List Tk4} (hn : n = ta.length) (hm : m = tb.length) (hnm : n = m) (h : ∀ j, j < n → ta[j]? = tb[j]?) : ta = tb := by
  apply List.ext_getElem?
  intro j
  rcases Nat.lt_or_ge j n with hj | hj
  · exact h j hj
  · rw [List.getElem?_eq_none (by omega), List.getElem?_eq_none (by omega)]
theorem len_eq {n m : Nat} (h : (!(decide ((((n : Nat) : Int) : Int) = ((m : Nat) : Int)))) = false) : n = m := by
  simp at h; omega
set_option maxRecDepth 100000 in
set_option maxHeartbeats 4000000 in
theorem kit_Tokens_ (A B : Option Addr) (n m c d : Nat) (ta tb : List Tk4) (w0 : World) (hn : n = ta.length) (hm : m = tb.length) (hbig : n ≤ 1000000000) (ha : ∀ k t, ta[k]? = some t → ∃ a, A = some a ∧ CellsAt w0 (a.add (k * 4)) (c4 t)) (hb : ∀ k t, tb[k]? = some t → ∃ a, B = some a ∧ CellsAt w0 (a.add (k * 4)) (c4 t)) : Calls Tryd.prog 14 #[.slice A n c, .slice B m d] w0 (Ret w0 (.bool (decide (ta = tb)))) := by
  refine calls_K (args := [.slice A n c, .slice B m d]) (n := 26) (env := [(0, .slice A n c), (1, .slice B m d)]) Tryd.func14 rfl rfl rfl ⟨rfl, rfl, trivial⟩ fun a w hK hM => ?_
  refine wp_seq ?_
  refine region_go (lst := [0]) (by kernel_rfl) ?_
  refine stepP hK 4 (.bool false) (by kernel_rfl) (by kernel_rfl) fun a hK => ?_
  refine region_done hK [(4, .bool false), (0, .slice A n c), (1, .slice B m d)] ⟨rfl, rfl, rfl, trivial⟩ fun a hK => ?_
  refine wp_seq ?_
  refine wp_seq ?_
  refine region_go (lst := [0, 1, 2, 3, 4]) (by kernel_rfl) ?_
  refine stepM hK 6 0 (by kernel_rfl) (.inl rfl) rfl fun a hK => ?_
  refine stepP hK 7 (.int .i64 ((n : Nat) : Int)) (by kernel_rfl) (by kernel_rfl) fun a hK => ?_
  refine stepM hK 8 1 (by kernel_rfl) (.inl rfl) rfl fun a hK => ?_
  refine stepP hK 9 (.int .i64 ((m : Nat) : Int)) (by kernel_rfl) (by kernel_rfl) fun a hK => ?_
  rcases Bool.eq_false_or_eq_true (!(decide ((((n : Nat) : Int) : Int) = ((m : Nat) : Int)))) with h1 | h1
  · refine stepP hK 10 (.bool true) (by kernel_rfl) (okBool (b := (!(decide ((((n : Nat) : Int) : Int) = ((m : Nat) : Int))))) (by kernel_rfl) h1) fun a hK => ?_
    refine region_done hK [(10, .bool true), (4, .bool false), (0, .slice A n c), (1, .slice B m d)] ⟨rfl, rfl, rfl, rfl, trivial⟩ fun a hK => ?_
    refine wp_cond_true (hK.get rfl) ?_
    refine wp_seq ?_
    refine region_go (lst := [0]) (by kernel_rfl) ?_
    refine stepP hK 4 (.bool false) (by kernel_rfl) (by kernel_rfl) fun a hK => ?_
    refine region_done hK [(4, .bool false), (10, .bool true), (0, .slice A n c), (1, .slice B m d)] ⟨rfl, rfl, rfl, rfl, trivial⟩ fun a hK => ?_
    refine wp_ret ?_
    exact ret_t hK rfl (u := (.bool false)) rfl (⟨congrArg (fun x => Ending.returned (Value.bool x)) (decide_eq_false (fun e => len_ne h1 (by rw [hn, hm, e]))).symm, hM.below⟩)
  · refine stepP hK 10 (.bool false) (by kernel_rfl) (okBool (b := (!(decide ((((n : Nat) : Int) : Int) = ((m : Nat) : Int))))) (by kernel_rfl) h1) fun a hK => ?_
    refine region_done hK [(10, .bool false), (4, .bool false), (0, .slice A n c), (1, .slice B m d)] ⟨rfl, rfl, rfl, rfl, trivial⟩ fun a hK => ?_
    refine wp_cond_false (hK.get rfl) ?_
    refine wp_skip ?_
    refine wp_seq ?_
    refine wp_seq ?_
    have hnm := h1
    refine region_go (lst := [0]) (by kernel_rfl) ?_
    refine stepP hK 5 (.int .i64 0) (by kernel_rfl) (by kernel_rfl) fun a hK => ?_
    refine region_done hK [(5, .int .i64 0), (10, .bool false), (4, .bool false), (0, .slice A n c), (1, .slice B m d)] ⟨rfl, rfl, rfl, rfl, rfl, trivial⟩ fun a hK => ?_
    refine wp_block ?_
    refine wp_loopX (fun x : Nat => [(10, .bool false), (4, .bool false), (0, .slice A n c), (1, .slice B m d), (5, .int .i64 ((x : Nat) : Int))]) (fun x : Nat => []) (fun x : Nat => x ≤ n ∧ ∀ j, j < x → ta[j]? = tb[j]?) (fun x : Nat => n - x) 0 (hK.sub ⟨rfl, rfl, rfl, rfl, rfl, trivial⟩) hM ⟨Nat.zero_le _, fun j h => absurd h (Nat.not_lt_zero j)⟩ ?_
    rintro i a w hK hM hR
    replace hK : Knows a 26 [(10, .bool false), (4, .bool false), (0, .slice A n c), (1, .slice B m d), (5, .int .i64 ((i : Nat) : Int))] := hK
    replace hM : Mem w0 w [] := hM
    replace hR : i ≤ n ∧ ∀ j, j < i → ta[j]? = tb[j]? := hR
    refine wp_seq ?_
    refine wp_seq ?_
    refine region_go (lst := [0, 1, 2, 3]) (by kernel_rfl) ?_
    refine stepM hK 11 5 (by kernel_rfl) (.inl rfl) rfl fun a hK => ?_
    refine stepM hK 12 0 (by kernel_rfl) (.inl rfl) rfl fun a hK => ?_
    refine stepP hK 13 (.int .i64 ((n : Nat) : Int)) (by kernel_rfl) (by kernel_rfl) fun a hK => ?_
    by_cases h2 : (((i : Nat) : Int) : Int) < ((n : Nat) : Int)
    · refine stepP hK 14 (.bool true) (by kernel_rfl) (okBool (b := (decide ((((i : Nat) : Int) : Int) < ((n : Nat) : Int)))) (by kernel_rfl) (decide_eq_true h2)) fun a hK => ?_
      refine region_done hK [(14, .bool true), (10, .bool false), (4, .bool false), (0, .slice A n c), (1, .slice B m d), (5, .int .i64 ((i : Nat) : Int))] ⟨rfl, rfl, rfl, rfl, rfl, rfl, trivial⟩ fun a hK => ?_
      refine wp_cond_true (hK.get rfl) ?_
      refine wp_skip ?_
      refine wp_seq ?_
      refine wp_block ?_
      refine wp_seq ?_
      obtain ⟨t3, ht3⟩ : ∃ t, ta[(i : Nat)]? = some t := ⟨_, List.getElem?_eq_getElem (by omega)⟩
      obtain ⟨at3, At3, ct3⟩ := ha _ _ ht3
      obtain ⟨t4, ht4⟩ : ∃ t, tb[(i : Nat)]? = some t := ⟨_, List.getElem?_eq_getElem (by have := len_eq hnm; omega)⟩
      obtain ⟨at4, At4, ct4⟩ := hb _ _ ht4
      rcases Bool.eq_false_or_eq_true (!(decide ((t3.1 : Int) = t4.1) && decide (t3.2.1 = t4.2.1) && decide ((t3.2.2.1 : Int) = t4.2.2.1) && decide ((t3.2.2.2 : Int) = t4.2.2.2))) with h5 | h5
      · refine region_any (F := fun w => Mem w0 w []) hK [some (.slice A n c), some (.int .i64 ((i : Nat) : Int)), some (.pointer (some (at3.add (i * 4)))), some (.agg #[.int .i64 t3.1, Str t3.2.1, .int .i64 t3.2.2.1, .int .i64 t3.2.2.2]), some (.slice B m d), some (.int .i64 ((i : Nat) : Int)), some (.pointer (some (at4.add (i * 4)))), some (.agg #[.int .i64 t4.1, Str t4.2.1, .int .i64 t4.2.2.1, .int .i64 t4.2.2.2]), some (.bool true)] 9 (fun _ _ hb hm => hm.go hb) hM (by kernel_rfl) (by kernel_rfl) ⟨⟨⟨⟨⟨⟨⟨⟨⟨trivial, ?_⟩, ?_⟩, ?_⟩, ?_⟩, ?_⟩, ?_⟩, ?_⟩, ?_⟩, ?_⟩ [(25, .bool true), (14, .bool true), (10, .bool false), (4, .bool false), (0, .slice A n c), (1, .slice B m d), (5, .int .i64 ((i : Nat) : Int))] (by kernel_rfl) fun a w hK hM => ?_
        · exact .val (.slice A n c) rfl (by kernel_rfl) (fun w hM => (by kernel_rfl))
        · exact .val (.int .i64 ((i : Nat) : Int)) rfl (by kernel_rfl) (fun w hM => (by kernel_rfl))
        · exact .val (.pointer (some (at3.add (i * 4)))) rfl (by kernel_rfl) (fun w hM => (run_ixA (k := i) (s := 4) rfl rfl At3 rfl Tryd.underlying29 (by kernel_rfl) (by omega)))
        · exact .val (.agg #[.int .i64 t3.1, Str t3.2.1, .int .i64 t3.2.2.1, .int .i64 t3.2.2.2]) rfl (by kernel_rfl) (fun w hM => run_loadE rfl rfl ((ct3.on hM.below)) (by kernel_rfl))
        · exact .val (.slice B m d) rfl (by kernel_rfl) (fun w hM => (by kernel_rfl))
        · exact .val (.int .i64 ((i : Nat) : Int)) rfl (by kernel_rfl) (fun w hM => (by kernel_rfl))
        · exact .val (.pointer (some (at4.add (i * 4)))) rfl (by kernel_rfl) (fun w hM => (run_ixA (k := i) (s := 4) rfl rfl At4 rfl Tryd.underlying29 (by kernel_rfl) (by have := len_eq hnm; omega)))
        · exact .val (.agg #[.int .i64 t4.1, Str t4.2.1, .int .i64 t4.2.2.1, .int .i64 t4.2.2.2]) rfl (by kernel_rfl) (fun w hM => run_loadE rfl rfl ((ct4.on hM.below)) (by kernel_rfl))
        · exact .val (.bool true) rfl (by kernel_rfl) (fun w hM => (okBool (b := (!(decide ((t3.1 : Int) = t4.1) && decide (t3.2.1 = t4.2.1) && decide ((t3.2.2.1 : Int) = t4.2.2.1) && decide ((t3.2.2.2 : Int) = t4.2.2.2)))) (run_neqTok rfl rfl rfl) h5))
        refine wp_cond_true (hK.get rfl) ?_
        refine wp_seq ?_
        refine region_go (lst := [0]) (by kernel_rfl) ?_
        refine stepP hK 4 (.bool false) (by kernel_rfl) (by kernel_rfl) fun a hK => ?_
        refine region_done hK [(4, .bool false), (25, .bool true), (14, .bool true), (10, .bool false), (0, .slice A n c), (1, .slice B m d), (5, .int .i64 ((i : Nat) : Int))] ⟨rfl, rfl, rfl, rfl, rfl, rfl, rfl, trivial⟩ fun a hK => ?_
        refine wp_ret ?_
        exact ret_t hK rfl (u := (.bool false)) rfl (⟨congrArg (fun x => Ending.returned (Value.bool x)) (decide_eq_false (fun e => tok_not (h5) (by rw [e, ht4] at ht3; exact (Option.some.inj ht3).symm))).symm, hM.below⟩)
      · refine region_any (F := fun w => Mem w0 w []) hK [some (.slice A n c), some (.int .i64 ((i : Nat) : Int)), some (.pointer (some (at3.add (i * 4)))), some (.agg #[.int .i64 t3.1, Str t3.2.1, .int .i64 t3.2.2.1, .int .i64 t3.2.2.2]), some (.slice B m d), some (.int .i64 ((i : Nat) : Int)), some (.pointer (some (at4.add (i * 4)))), some (.agg #[.int .i64 t4.1, Str t4.2.1, .int .i64 t4.2.2.1, .int .i64 t4.2.2.2]), some (.bool false)] 9 (fun _ _ hb hm => hm.go hb) hM (by kernel_rfl) (by kernel_rfl) ⟨⟨⟨⟨⟨⟨⟨⟨⟨trivial, ?_⟩, ?_⟩, ?_⟩, ?_⟩, ?_⟩, ?_⟩, ?_⟩, ?_⟩, ?_⟩ [(25, .bool false), (14, .bool true), (10, .bool false), (4, .bool false), (0, .slice A n c), (1, .slice B m d), (5, .int .i64 ((i : Nat) : Int))] (by kernel_rfl) fun a w hK hM => ?_
        · exact .val (.slice A n c) rfl (by kernel_rfl) (fun w hM => (by kernel_rfl))
        · exact .val (.int .i64 ((i : Nat) : Int)) rfl (by kernel_rfl) (fun w hM => (by kernel_rfl))
        · exact .val (.pointer (some (at3.add (i * 4)))) rfl (by kernel_rfl) (fun w hM => (run_ixA (k := i) (s := 4) rfl rfl At3 rfl Tryd.underlying29 (by kernel_rfl) (by omega)))
        · exact .val (.agg #[.int .i64 t3.1, Str t3.2.1, .int .i64 t3.2.2.1, .int .i64 t3.2.2.2]) rfl (by kernel_rfl) (fun w hM => run_loadE rfl rfl ((ct3.on hM.below)) (by kernel_rfl))
        · exact .val (.slice B m d) rfl (by kernel_rfl) (fun w hM => (by kernel_rfl))
        · exact .val (.int .i64 ((i : Nat) : Int)) rfl (by kernel_rfl) (fun w hM => (by kernel_rfl))
        · exact .val (.pointer (some (at4.add (i * 4)))) rfl (by kernel_rfl) (fun w hM => (run_ixA (k := i) (s := 4) rfl rfl At4 rfl Tryd.underlying29 (by kernel_rfl) (by have := len_eq hnm; omega)))
        · exact .val (.agg #[.int .i64 t4.1, Str t4.2.1, .int .i64 t4.2.2.1, .int .i64 t4.2.2.2]) rfl (by kernel_rfl) (fun w hM => run_loadE rfl rfl ((ct4.on hM.below)) (by kernel_rfl))
        · exact .val (.bool false) rfl (by kernel_rfl) (fun w hM => (okBool (b := (!(decide ((t3.1 : Int) = t4.1) && decide (t3.2.1 = t4.2.1) && decide ((t3.2.2.1 : Int) = t4.2.2.1) && decide ((t3.2.2.2 : Int) = t4.2.2.2)))) (run_neqTok rfl rfl rfl) h5))
        refine wp_cond_false (hK.get rfl) ?_
        refine wp_skip ?_
        refine region_go (lst := [0, 1, 2]) (by kernel_rfl) ?_
        refine stepM hK 15 5 (by kernel_rfl) (.inl rfl) rfl fun a hK => ?_
        refine stepP hK 16 (.int .i64 (((i + 1) : Nat) : Int)) (by kernel_rfl) (run_addN (i := i) (j := 1) rfl rfl rfl (by omega)) fun a hK => ?_
        refine stepM hK 5 16 (by kernel_rfl) (.inr rfl) rfl fun a hK => ?_
        refine region_done hK [(5, .int .i64 (((i + 1) : Nat) : Int)), (25, .bool false), (14, .bool true), (10, .bool false), (4, .bool false), (0, .slice A n c), (1, .slice B m d)] ⟨rfl, rfl, rfl, rfl, rfl, rfl, rfl, trivial⟩ fun a hK => ?_
        have hRn : (i + 1) ≤ n ∧ ∀ j, j < (i + 1) → ta[j]? = tb[j]? := ⟨by omega, fun j hj => (Nat.lt_succ_iff_lt_or_eq.1 hj).elim (fun h => hR.2 j h) (fun h => by subst h; rw [ht3, ht4, tok_same (h5)])⟩
        have hmn : n - (i + 1) < n - i := by omega
        exact ⟨i + 1, hK.sub ⟨rfl, rfl, rfl, rfl, rfl, trivial⟩, hM, hRn, hmn⟩
    · refine stepP hK 14 (.bool false) (by kernel_rfl) (okBool (b := (decide ((((i : Nat) : Int) : Int) < ((n : Nat) : Int)))) (by kernel_rfl) (decide_eq_false h2)) fun a hK => ?_
      refine region_done hK [(14, .bool false), (10, .bool false), (4, .bool false), (0, .slice A n c), (1, .slice B m d), (5, .int .i64 ((i : Nat) : Int))] ⟨rfl, rfl, rfl, rfl, rfl, rfl, trivial⟩ fun a hK => ?_
      refine wp_cond_false (hK.get rfl) ?_
      refine wp_exit (exit_then (exit_then (exit_here 0 ?_)))
      refine wp_seq ?_
      refine region_go (lst := [0]) (by kernel_rfl) ?_
      refine stepP hK 4 (.bool true) (by kernel_rfl) (by kernel_rfl) fun a hK => ?_
      refine region_done hK [(4, .bool true), (14, .bool false), (10, .bool false), (0, .slice A n c), (1, .slice B m d), (5, .int .i64 ((i : Nat) : Int))] ⟨rfl, rfl, rfl, rfl, rfl, rfl, trivial⟩ fun a hK => ?_
      refine wp_ret ?_
      exact ret_t hK rfl (u := (.bool true)) rfl (⟨congrArg (fun x => Ending.returned (Value.bool x)) (decide_eq_true (toks_same hn hm (len_eq hnm) (fun j hj => hR.2 j (by omega)))).symm, hM.below⟩)
theorem en_cantileverkit_Tokens : Enters Tryd.prog 14 := enters_of Tryd.func14 (by kernel_rfl) rfl
theorem kit_Tokens {va vb : Value} {ta tb : List Tk4} (w0 : World) (hl : ta.length ≤ 1000000000) (ha : SliceAt w0 va ta) (hb : SliceAt w0 vb tb) : Calls Tryd.prog 14 #[va, vb] w0 (Ret w0 (.bool (decide (ta = tb)))) := by
  obtain ⟨A, n, c, rfl, hn, ha⟩ := ha
  obtain ⟨B, m, d, rfl, hm, hb⟩ := hb
  exact kit_Tokens_ A B n m c d ta tb w0 hn hm (by omega) ha hb
end Go.Proofs.YtbcfggdifljacaaDoor
