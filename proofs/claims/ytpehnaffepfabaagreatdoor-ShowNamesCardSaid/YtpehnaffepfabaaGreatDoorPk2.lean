/-
  What ShowNamesRCard stands on, part 2.
-/
import Derived.Laws.StructEq
import Derived.KernelRfl
import Derived.Lib.Builder
import Derived.Lib.UnsafeStr
import Derived.Calls
import Derived.LoopN
import Derived.Laws.Externs
import Derived.Lib.MakeNoZero
import Derived.Orders
import Derived.Test.YtpehnaffepfabaaGreatDoorPk1
namespace Go.Proofs.YtpehnaffepfabaaGreatDoor.Rx
open Go Go.RowKit
section
variable {W : Nat → Prop} {ρ : Nm} {g : Get} {V : Nat → Prop} {nx : Nat} {w : World} {P : Program} {o : Oper} {σ : Operand → RV} {τ : Operand → Value}
theorem keyT_ok {t : TypeId} {k : RV} {K : Value} (h : keyT P t k = true) (hk : Rl ρ k K) : ∃ kt e d, P.underlying t = some (.map kt e) ∧ P.underlying kt = some d ∧ ((d = .string ∧ ∃ l n, k = .s l n ∧ K = .string ⟨(bytesN l n).toArray⟩) ∨ ∃ j z, d = .int j ∧ k = .i j z ∧ K = .int j z) := by
  unfold keyT at h
  split at h
  · rename_i kt e hu
    split at h
    · rename_i hd
      split at h
      · rename_i l n; exact ⟨kt, e, _, hu, hd, .inl ⟨rfl, l, n, rfl, hk⟩⟩
      · cases h
    · rename_i j hd
      split at h
      · rename_i i z; obtain rfl := of_decide_eq_true h; exact ⟨kt, e, _, hu, hd, .inr ⟨_, z, rfl, rfl, hk⟩⟩
      · cases h
    · cases h
  · cases h
theorem bytes_beq (a b : List UInt8) : ((⟨a.toArray⟩ : ByteArray) == ⟨b.toArray⟩) = decide (a = b) := by
  rw [Go.beq_toListBytes, Bool.eq_iff_iff]
  simp
theorem find_ok {d : TypeDesc} {k : RV} {K : Value} (hd : (d = .string ∧ ∃ l n, k = .s l n ∧ K = .string ⟨(bytesN l n).toArray⟩) ∨ ∃ j z, d = .int j ∧ k = .i j z ∧ K = .int j z) : ∀ {es : RV} {l : List MapEntry} {i : Nat} {r : Option RV}, RM ρ es l → findK k es = some r → ∃ r', Instr.findNow d K l i = some r' ∧ match r with
    | none => r' = none
    | some v => ∃ j V, r' = some (j, V) ∧ Rl ρ v V := by
  intro es
  induction es with
  | nl =>
    intro l i r h hf
    rw [show l = [] from h]
    obtain rfl := Option.some.inj (show some none = some r from hf)
    exact ⟨none, rfl, rfl⟩
  | cn hd' tl _ ih =>
    rintro l i r ⟨e, m, rfl, ⟨a, v, rfl, h1, h2⟩, h3⟩ hf
    replace hf : (Option.rec none (fun e => Bool.rec (findK k tl) (some (some v)) e) (eqK k a) : Option (Option RV)) = some r := hf
    cases he : eqK k a with
    | none => rw [he] at hf; cases hf
    | some b =>
      rw [he] at hf
      have hs : Instr.sameNow d K e.key = some b := by
        rcases hd with ⟨rfl, p, n, rfl, rfl⟩ | ⟨j, z, rfl, rfl, rfl⟩
        · cases a with
          | s q m' =>
            rw [show e.key = _ from h1]
            obtain rfl := Option.some.inj (show some (eqS p n q m') = some b from he)
            show some ((⟨(bytesN p n).toArray⟩ : ByteArray) == ⟨(bytesN q m').toArray⟩) = _
            rw [bytes_beq, eqS_ok]
          | _ => cases he
        · cases a with
          | i j' y =>
            rw [show e.key = _ from h1]
            replace he : (Bool.rec none (some (eqI z y)) (decide (j = j')) : Option Bool) = some b := he
            cases hj : decide (j = j') with
            | false => rw [hj] at he; cases he
            | true =>
              rw [hj] at he
              obtain rfl := of_decide_eq_true hj
              obtain rfl := Option.some.inj (show some (eqI z y) = some b from he)
              show (if j = j then some (z == y) else none) = _
              rw [if_pos rfl, eqI_ok]
              congr 1
          | _ => cases he
      cases b with
      | true =>
        obtain rfl := Option.some.inj (show some (some v) = some r from hf)
        exact ⟨some (i, e.val), by unfold Instr.findNow; rw [hs], i, e.val, rfl, h2⟩
      | false =>
        obtain ⟨r', h4, h5⟩ := ih (i := i + 1) h3 (show findK k tl = some r from hf)
        exact ⟨r', by unfold Instr.findNow; rw [hs]; exact h4, h5⟩
  | _ => intro l i r h; exact h.elim
theorem run_key (d : Nat) {b : Bool} {kt : TypeId} {D : TypeDesc} {K : Value} (hu : P.underlying kt = some D) (hd : (D = .string ∧ ∃ s, K = .string s) ∨ ∃ j z, D = .int j ∧ K = .int j z) : (Instr.checkKey b (d + 1) kt K).run P w = .ok () w := by
  rcases hd with ⟨rfl, s, rfl⟩ | ⟨j, z, rfl, rfl⟩ <;> simp [Instr.checkKey, run_underlying hu]
theorem sat_lookup (hH : HR ρ g V w) {t : TypeId} {m k : Operand} {ok : Bool} (hop : o.op = .lookup t m k ok) (hm : Rl ρ (σ m) (τ m)) (hk : Rl ρ (σ k) (τ k)) : Sat P W ρ g V nx w ((execOp τ o).run P w) (opLookup P g t (σ m) (σ k) ok) := by
  unfold opLookup
  cases hkt : keyT P t (σ k) with
  | false => trivial
  | true =>
    obtain ⟨kt, e, d, hu, hd, hK⟩ := keyT_ok hkt hk
    dsimp only
    cases hes : esOf g (σ m) with
    | none => trivial
    | some es =>
      dsimp only
      cases hf : findK (σ k) es with
      | none => trivial
      | some r =>
        have hKd : (d = .string ∧ ∃ s, τ k = .string s) ∨ ∃ j z, d = .int j ∧ τ k = .int j z := by
          rcases hK with ⟨h1, l, n, _, h2⟩ | ⟨j, z, h1, _, h2⟩
          · exact .inl ⟨h1, _, h2⟩
          · exact .inr ⟨j, z, h1, h2⟩
        have hent : ∃ (l : Array MapEntry), RM ρ es l.toList ∧ ((τ m = .map none ∧ l = #[]) ∨ ∃ b clk, τ m = .map (some b) ∧ w.heap[b]? = some (.map l clk)) := by
          cases hsm : σ m with
          | mn =>
            rw [hsm] at hm hes
            obtain rfl := Option.some.inj (show some RV.nl = some es from hes)
            exact ⟨#[], rfl, .inl ⟨hm, rfl⟩⟩
          | m r =>
            rw [hsm] at hm hes
            obtain ⟨q, hq, hm⟩ := hm
            replace hes : (Option.rec none (fun o => match o with
              | .map es => some es
              | _ => none) (g r) : Option RV) = some es := hes
            cases hg : g r with
            | none => rw [hg] at hes; cases hes
            | some ob =>
              rw [hg] at hes
              cases ob with
              | map es' =>
                obtain rfl := Option.some.inj (show some es' = some es from hes)
                obtain ⟨q', hq', l, clk, h1, h2⟩ := hH.at_ r _ hg
                rw [hq] at hq'
                obtain rfl := Option.some.inj hq'
                exact ⟨l, h2, .inr ⟨_, clk, hm, h1⟩⟩
              | _ => cases hes
          | _ => rw [hsm] at hes; cases hes
        obtain ⟨l, hRM, hml⟩ := hent
        obtain ⟨r', h3, h4⟩ := find_ok (ρ := ρ) hK (i := 0) hRM hf
        have hck : ∀ b, (Instr.checkKey b 10000 kt (τ k)).run P w = .ok () w := fun b => run_key 9999 hd hKd
        have hfk : (Instr.findKey kt (τ k) l.toList).run P w = .ok r' w := by simp [Instr.findKey, run_underlying hd, h3]
        have hrun : ∀ V : Value, (r' = none → (zeroValue e).run P w = .ok V w) → (∀ j u, r' = some (j, u) → u = V) → (execOp τ o).run P w = .ok (.value (if ok = true then .tuple #[V, .bool r'.isSome] else V)) w := by
          intro V hv1 hv2
          rcases hml with ⟨h5, rfl⟩ | ⟨b, clk, h5, h6⟩
          · cases r' with
            | none => simp [execOp, hop, Instr.lookup, run_underlying hu, h5, hck, show (Instr.findKey kt (τ k) []).run P w = .ok none w from hfk, hv1 rfl]
            | some p => simp [Instr.findNow] at h3
          · cases r' with
            | none => simp [execOp, hop, Instr.lookup, run_underlying hu, h5, hck, hfk, hv1 rfl, getObj, Sem.run, h6]
            | some p =>
              obtain ⟨j, u⟩ := p
              have := hv2 j u rfl
              subst this
              simp [execOp, hop, Instr.lookup, run_underlying hu, h5, hck, hfk, getObj, Sem.run, h6]
        cases r with
        | none =>
          replace h4 : r' = none := h4
          subst h4
          dsimp only
          cases hz : elemM P t with
          | none => trivial
          | some z =>
            unfold elemM at hz
            rw [hu] at hz
            obtain ⟨i, v, hi, hv, rfl⟩ := zeroV_ok (show zeroV P e = some z from hz)
            refine ⟨_, hrun v (fun _ => by simp [zeroValue, typeInfo, hi, hv]) (fun j u h => by cases h), okT_ok (ofV_ok v)⟩
        | some v =>
          obtain ⟨j, V, h5, h6⟩ := h4
          subst h5
          refine ⟨_, hrun V (fun h => by cases h) (fun j u h => by injection h with h; injection h with _ h; exact h.symm), okT_ok h6⟩
theorem RM.snoc {es : RV} {k x : RV} {e : MapEntry} (hk : Rl ρ k e.key) (hx : Rl ρ x e.val) : ∀ {l : List MapEntry}, RM ρ es l → RM ρ (app es (.cn (.cn k x) .nl)) (l ++ [e]) := by
  induction es with
  | nl => intro l h; rw [show l = [] from h]; exact ⟨e, [], rfl, ⟨k, x, rfl, hk, hx⟩, rfl⟩
  | cn hd tl _ ih => rintro l ⟨e', m, rfl, h1, h2⟩; exact ⟨e', m ++ [e], rfl, h1, ih h2⟩
  | _ => intro l h; exact h.elim
theorem sat_update (hH : HR ρ g V w) {t : TypeId} {m k x : Operand} (hop : o.op = .mapUpdate t m k x ∨ o.op = .insert t m k x) (hm : Rl ρ (σ m) (τ m)) (hk : Rl ρ (σ k) (τ k)) (hx : Rl ρ (σ x) (τ x)) : Sat P W ρ g V nx w ((execOp τ o).run P w) (opUpdate P g t (σ m) (σ k) (σ x)) := by
  unfold opUpdate
  cases hsm : σ m with
  | m r =>
    rw [hsm] at hm
    obtain ⟨q, hq, hm⟩ := hm
    dsimp only
    cases hkt : keyT P t (σ k) with
    | false => trivial
    | true =>
      obtain ⟨kt, e, d, hu, hd, hK⟩ := keyT_ok hkt hk
      dsimp only
      cases hg : g r with
      | none => trivial
      | some ob =>
        cases ob with
        | map es =>
          dsimp only
          cases hf : findK (σ k) es with
          | none => trivial
          | some f =>
            cases f with
            | some v => trivial
            | none =>
              obtain ⟨q', hq', l, clk, h1, h2⟩ := hH.at_ r _ hg
              rw [hq] at hq'
              obtain rfl := Option.some.inj hq'
              obtain ⟨r', h3, h4⟩ := find_ok (ρ := ρ) hK (i := 0) h2 hf
              replace h4 : r' = none := h4
              subst h4
              have hKd : (d = .string ∧ ∃ s, τ k = .string s) ∨ ∃ j z, d = .int j ∧ τ k = .int j z := by
                rcases hK with ⟨h1, l, n, _, h2⟩ | ⟨j, z, h1, _, h2⟩
                · exact .inl ⟨h1, _, h2⟩
                · exact .inr ⟨j, z, h1, h2⟩
              have hck : ∀ b, (Instr.checkKey b 10000 kt (τ k)).run P w = .ok () w := fun b => run_key 9999 hd hKd
              have hfk : (Instr.findKey kt (τ k) l.toList).run P w = .ok none w := by simp [Instr.findKey, run_underlying hd, h3]
              intro hW
              have hlt : q.b < w.heap.size := (Array.getElem?_eq_some_iff.1 h1).1
              refine ⟨{ w with heap := w.heap.setIfInBounds q.b (.map (l.push ⟨τ k, τ x, clk⟩) (clk + 1)) }, ?_, To.set hH hg trivial trivial hq hW ⟨l.push ⟨τ k, τ x, clk⟩, clk + 1, ?_, ?_⟩ (fun j hj => ?_) (by simp) rfl rfl rfl, hH.lb hg⟩
              · rcases hop with hop | hop <;> simp [execOp, hop, Instr.mapUpdate, run_underlying hu, hm, hck, hfk, getObj, setObj, Sem.run, h1]
              · show (w.heap.setIfInBounds q.b _)[q.b]? = _
                rw [Array.getElem?_setIfInBounds, if_pos rfl, if_pos hlt]
              · rw [Array.toList_push]; exact h2.snoc hk hx
              · show (w.heap.setIfInBounds q.b _)[j]? = _
                rw [Array.getElem?_setIfInBounds, if_neg (Ne.symm hj)]
        | _ => trivial
  | _ => trivial
end
end Go.Proofs.YtpehnaffepfabaaGreatDoor.Rx
namespace Go.Proofs.YtpehnaffepfabaaGreatDoor.Rx
open Go Go.RowKit
section
variable {W : Nat → Prop} {ρ : Nm} {g : Get} {V : Nat → Prop} {nx : Nat} {w : World} {P : Program} {o : Oper} {σ : Operand → RV} {τ : Operand → Value}
theorem rowAt_mono {fits : TypeId → Bool} {d : Nat} {e : TypeId} {c c' k n : Nat} (hc : c ≤ c') (h : rowAt P fits d e c k n = true) : rowAt P fits d e c' k n = true := by
  cases d with
  | zero => exact h
  | succ d =>
    unfold rowAt at h ⊢
    simp only at h ⊢
    split
    · rename_i h0; rw [if_pos h0] at h; exact h
    · rename_i h0
      rw [if_neg h0] at h
      rw [Bool.or_eq_true] at h ⊢
      rcases h with h | h
      · left
        rw [Bool.and_eq_true, Bool.and_eq_true] at h ⊢
        refine ⟨⟨h.1.1, ?_⟩, h.2⟩
        have h1 := of_decide_eq_true h.1.2
        exact decide_eq_true (by omega)
      · right
        rw [Bool.and_eq_true] at h ⊢
        refine ⟨?_, h.2⟩
        have h1 := of_decide_eq_true h.1
        exact decide_eq_true (by omega)
theorem liesAt_mono {c c' : Nat} (hc : c ≤ c') : ∀ {d : Nat} {e : TypeId} {k : Nat} {u : TypeId} {n : Nat}, liesAt P d e c k u n = true → liesAt P d e c' k u n = true := by
  intro d
  induction d with
  | zero => intro e k u n h; exact h
  | succ d ih =>
    intro e k u n h
    unfold liesAt at h ⊢
    rw [Bool.or_eq_true] at h ⊢
    rcases h with h | h
    · exact .inl (rowAt_mono hc h)
    · right
      split
      · rename_i m u' hu
        rw [hu] at h
        exact ih h
      · rename_i hu
        split at h
        · rename_i m u' hu'
          exact absurd hu' (hu m u')
        · cases h
theorem shape_at {q : Pl} {t : TypeId} {c : Array Value} (h : w.heap[q.b]? = some (.cells c t (0, 0))) : w.shape? q.b = some (t, c.size) := by simp [World.shape?, h]
theorem sat_cv (hH : HR ρ g V w) {s d : TypeId} {x : Operand} (hop : o.op = .convert s d x) (hx : Rl ρ (σ x) (τ x)) : Sat P W ρ g V nx w ((execOp τ o).run P w) (opCv P g s d (σ x) (opConv P o s d (σ x))) := by
  unfold opCv
  cases hs : σ x with
  | p r k =>
    rw [hs] at hx
    obtain ⟨q, hq, hx'⟩ := hx
    dsimp only
    cases hg : g r with
    | none => trivial
    | some ob =>
      cases ob with
      | row t n cs =>
        dsimp only
        obtain ⟨q1, hq1, c, h1, h2, h3, h4⟩ := hH.at_ r _ hg
        rw [hq] at hq1
        obtain rfl := Option.some.inj hq1
        have hsh := shape_at h1
        cases ht : (toU P s d && Nat.blt k n) with
        | true =>
          dsimp only [cond]
          rw [Bool.and_eq_true] at ht
          have hk : k < n := Nat.le_of_ble_eq_true ht.2
          obtain ⟨e, j, hu, hd, hj, hz⟩ : ∃ e j, P.underlying s = some (.pointer e) ∧ P.underlying d = some .unsafePointer ∧ P.info? e = some j ∧ 0 < j.size := by
            have ht1 := ht.1
            unfold toU at ht1
            split at ht1
            · rename_i e he
              split at ht1
              · rename_i hd
                split at ht1
                · rename_i j hj; exact ⟨e, j, he, hd, hj, Nat.le_of_ble_eq_true ht1⟩
                · cases ht1
              · cases ht1
            · cases ht1
          have := Lib.run_to_unsafe (P := P) (w := w) ⟨q.b, k, none⟩ hu hd hj (by omega) hsh (by show k < c.size; omega)
          exact ⟨_, by simp [execOp, hop, hx', this], q, hq, rfl⟩
        | false =>
          dsimp only [cond]
          cases hf : ofU P s d t n k with
          | false => trivial
          | true =>
            obtain ⟨u, j, hu, hd, hj, hl⟩ : ∃ u j, P.underlying s = some .unsafePointer ∧ P.underlying d = some (.pointer u) ∧ P.info? u = some j ∧ liesAt P P.depth t (n / P.cellsOf t) k u 1 = true := by
              unfold ofU at hf
              split at hf
              · rename_i hu
                split at hf
                · rename_i u hd
                  rw [Bool.and_eq_true] at hf
                  obtain ⟨j, hj⟩ := Option.isSome_iff_exists.1 hf.1
                  exact ⟨u, j, hu, hd, hj, hf.2⟩
                · cases hf
              · cases hf
            have := Lib.run_from_unsafe (P := P) (w := w) ⟨q.b, k, none⟩ hu hd hj hsh (liesAt_mono (Nat.div_le_div_right (by omega)) hl)
            exact ⟨_, by simp [execOp, hop, hx', this], q, hq, rfl⟩
      | _ => trivial
  | _ =>
    have h0 := sat_conv (P := P) (W := W) (g := g) (V := V) (nx := nx) (w := w) hop hx
    rw [hs] at h0
    exact h0
theorem sat_cap {x : Operand} {t : TypeId} (hop : o.op = .call ⟨.builtin .cap, #[x], #[t]⟩) (hx : Rl ρ (σ x) (τ x)) : Sat P W ρ g V nx w ((execOp τ o).run P w) (opCap P t (σ x)) := by
  unfold opCap
  cases hs : σ x with
  | sl r k n cap =>
    rw [hs] at hx
    obtain ⟨q, A, c, hq, hx', hnc, hcap⟩ := hx
    dsimp only
    cases hb : (isSl P t && Nat.blt cap UNK) with
    | false => trivial
    | true =>
      rw [Bool.and_eq_true] at hb
      obtain ⟨e, hu⟩ := isSl_ok hb.1
      have hlt : cap < UNK := Nat.le_of_ble_eq_true hb.2
      have hcc : cap = c := by
        rcases hcap with ⟨h, _⟩ | ⟨s, h, _⟩
        · exact h
        · omega
      subst hcc
      exact ⟨.int .i64 (Int.ofNat cap), by simp [execOp, hop, hx', resolve, invoke, builtin, Builtin.cap_, run_underlying hu, goInt], rfl⟩
  | sn =>
    rw [hs] at hx
    have hx' : τ x = .slice none 0 0 := hx
    dsimp only
    cases hb : isSl P t with
    | false => trivial
    | true =>
      obtain ⟨e, hu⟩ := isSl_ok hb
      exact ⟨.int .i64 (Int.ofNat 0), by simp [execOp, hop, hx', resolve, invoke, builtin, Builtin.cap_, run_underlying hu, goInt], rfl⟩
  | _ => trivial
theorem sat_copy0 {x y : Operand} {t u : TypeId} (hop : o.op = .call ⟨.builtin .copy, #[x, y], #[t, u]⟩) (hx : Rl ρ (σ x) (τ x)) (hy : Rl ρ (σ y) (τ y)) : Sat P W ρ g V nx w ((execOp τ o).run P w) (opCopy0 P t (σ x) (σ y)) := by
  unfold opCopy0
  cases hs : σ x with
  | sl r k n cap =>
    rw [hs] at hx
    obtain ⟨q, A, c, hq, hx', hnc, hcap⟩ := hx
    dsimp only
    cases hb : ((elemSz P t).isSome && Nat.beq n 0) with
    | false => trivial
    | true =>
      rw [Bool.and_eq_true] at hb
      obtain rfl := Nat.eq_of_beq_eq_true hb.2
      obtain ⟨s, hs2⟩ := Option.isSome_iff_exists.1 hb.1
      unfold elemSz at hs2
      cases he : elemS P t with
      | none => rw [he] at hs2; cases hs2
      | some e =>
        rw [he] at hs2
        obtain ⟨hu, _⟩ := elemS_ok he
        obtain ⟨i, hi, hsz⟩ := sz_ok hs2
        dsimp only [cond]
        cases hsy : σ y with
        | sl r' k' n' cap' =>
          rw [hsy] at hy
          obtain ⟨q', A', c', hq', hy', _, _⟩ := hy
          have h0 := run_firstCells_some (P := P) w i.size 0 A' n' c' [] (by simp) (fun j v h => by simp at h)
          exact ⟨.int .i64 (Int.ofNat 0), by simp [execOp, hop, hx', hy', resolve, invoke, builtin, Builtin.copy_, Builtin.lenOf, run_underlying hu, Go.sizeOf, typeInfo, hi, h0, storeCells, goInt], rfl⟩
        | sn =>
          rw [hsy] at hy
          have hy' : τ y = .slice none 0 0 := hy
          have h0 := run_firstCells_none (P := P) w i.size 0 0 0
          exact ⟨.int .i64 (Int.ofNat 0), by simp [execOp, hop, hx', hy', resolve, invoke, builtin, Builtin.copy_, Builtin.lenOf, run_underlying hu, Go.sizeOf, typeInfo, hi, h0, storeCells, goInt], rfl⟩
        | _ => trivial
  | _ => trivial
theorem sat_sd {x : Operand} {ts : Array TypeId} (hop : o.op = .call ⟨.builtin .unsafeSliceData, #[x], ts⟩) (hx : Rl ρ (σ x) (τ x)) : Sat P W ρ g V nx w ((execOp τ o).run P w) (opSd (σ x)) := by
  unfold opSd
  cases hs : σ x with
  | sl r k n cap =>
    rw [hs] at hx
    obtain ⟨q, A, c, hq, hx', hnc, hcap⟩ := hx
    dsimp only
    cases hn : Nat.blt 0 n with
    | false => trivial
    | true =>
      have hn' : 0 < n := Nat.le_of_ble_eq_true hn
      have hA : A = ⟨q.b, k, none⟩ := by
        rcases hcap with ⟨_, _, h | h⟩ | ⟨s', _, h | ⟨h, _⟩⟩
        · omega
        · exact h
        · omega
        · exact h
      have := Lib.run_unsafeSliceData_row (P := P) (w := w) ts o.type A n c (by omega)
      exact ⟨.pointer (some A), by simp [execOp, hop, hx', resolve, invoke, builtin, this], q, hq, by rw [hA]⟩
  | sn =>
    rw [hs] at hx
    have hx' : τ x = .slice none 0 0 := hx
    have := Lib.run_unsafeSliceData_nil (P := P) (w := w) ts o.type 0 0
    exact ⟨_, by simp [execOp, hop, hx', resolve, invoke, builtin, this], rfl⟩
  | _ => trivial
theorem sNR_ok : ∀ {l : RV} {vs : List Value} {N : Nat}, RL ρ l vs → sNR l = some N → ∃ bs : List UInt8, vs = bs.map (fun b => Value.int .u8 b.toNat) ∧ bytesN bs.length N = bs := by
  intro l
  induction l with
  | nl =>
    intro vs N h _
    have h' : vs = [] := h
    subst h'
    exact ⟨[], rfl, rfl⟩
  | cn v l ihv ih =>
    clear ihv
    rintro vs N ⟨x, y, rfl, h1, h2⟩ hN
    unfold sNR at hN
    split at hN
    · rename_i b
      cases hb : Nat.blt b 256 with
      | false => rw [hb] at hN; cases hN
      | true =>
        rw [hb] at hN
        dsimp only [cond] at hN
        have hb' : b < 256 := Nat.le_of_ble_eq_true hb
        cases hm : sNR l with
        | none => rw [hm] at hN; cases hN
        | some m =>
          rw [hm] at hN
          obtain rfl := Option.some.inj (show some (b + 256 * m) = some N from hN)
          obtain ⟨bs, h3, h4⟩ := ih h2 hm
          have h1' : x = .int .u8 (Int.ofNat b) := h1
          have hbu : (UInt8.ofNat b).toNat = b := by rw [UInt8.toNat_ofNat']; exact Nat.mod_eq_of_lt hb'
          refine ⟨UInt8.ofNat b :: bs, ?_, ?_⟩
          · rw [List.map_cons, ← h3, h1', hbu]; rfl
          · show UInt8.ofNat (b + 256 * m) :: bytesN bs.length ((b + 256 * m) / 256) = _
            rw [show (b + 256 * m) / 256 = m by omega, h4]
            congr 1
            apply UInt8.toNat.inj
            rw [UInt8.toNat_ofNat', hbu]
            omega
    · cases hN
  | _ => intro vs N h; exact h.elim
theorem sat_us (hH : HR ρ g V w) {x y : Operand} {t u : TypeId} (hop : o.op = .call ⟨.builtin .unsafeString, #[x, y], #[t, u]⟩) (hx : Rl ρ (σ x) (τ x)) (hy : Rl ρ (σ y) (τ y)) : Sat P W ρ g V nx w ((execOp τ o).run P w) (opUs P g t (σ x) (σ y)) := by
  unfold opUs
  split
  · rename_i n hsy
    rw [hsy] at hy
    have hy' : τ y = .int .i64 (Int.ofNat n) := hy
    split
    · rename_i r k hsx
      rw [hsx] at hx
      obtain ⟨q, hq, hx'⟩ := hx
      cases hg : g r with
      | none => trivial
      | some ob =>
        cases ob with
        | row e n' cs =>
          dsimp only
          cases hc : (Nat.beq k 0 && Nat.blt 0 n && Nat.blt n BIG && byteP P t e) with
          | false => trivial
          | true =>
            simp only [Bool.and_eq_true] at hc
            obtain ⟨⟨⟨c1, c2⟩, c3⟩, c4⟩ := hc
            obtain rfl := Nat.eq_of_beq_eq_true c1
            have hn0 : 0 < n := Nat.le_of_ble_eq_true c2
            have hnB : n < BIG := Nat.le_of_ble_eq_true c3
            obtain ⟨hpt, hce⟩ : P.underlying t = some (.pointer e) ∧ P.cellsOf e = 1 := by
              unfold byteP at c4
              split at c4
              · rename_i e' he
                rw [Bool.and_eq_true] at c4
                obtain rfl := Nat.eq_of_beq_eq_true c4.1
                exact ⟨he, Nat.eq_of_beq_eq_true c4.2⟩
              · cases c4
            dsimp only [cond]
            cases hr : rd cs n 0 with
            | none => trivial
            | some l =>
              dsimp only
              cases hN : sNR l with
              | none => trivial
              | some N =>
                obtain ⟨q1, hq1, c, h1, h2, h3, h4⟩ := hH.at_ r _ hg
                rw [hq] at hq1
                obtain rfl := Option.some.inj hq1
                obtain ⟨vs, h5, h6, h7⟩ := rd_ok (fun i x hx => (h4 i x hx).2) _ _ _ hr
                obtain ⟨bs, h8, h9⟩ := sNR_ok h5 hN
                have hlen : bs.length = n := by rw [← h6, h8, List.length_map]
                have hcs : n ≤ c.size := by
                  have h10 : vs[n - 1]? = some (vs[n - 1]'(by omega)) := List.getElem?_eq_getElem (by omega)
                  have := (Array.getElem?_eq_some_iff.1 (h7 _ _ h10)).1
                  omega
                intro hW
                have hrun := Lib.run_unsafeString_row (P := P) (w := w) t u o.type e hpt hce q.b c.size (shape_at h1) bs (by rintro rfl; simp at hlen; omega) (by omega) (by unfold BIG at hnB; omega) (fun j x hj => by
                  rw [Addr.add_lit, Nat.zero_add]
                  simp only [World.cell?, h1]
                  have := h7 j (.int .u8 x.toNat) (by rw [h8, List.getElem?_map, hj]; rfl)
                  simpa using this)
                rw [hlen] at hrun
                refine ⟨.string ⟨bs.toArray⟩, w.freeze ⟨q.b, 0, none⟩ n, ?_, To.set0 (w' := w.freeze ⟨q.b, 0, none⟩ n) hH hg trivial hq hW trivial (fun j hj => ?_) ?_ ?_ ?_ ?_, ?_, hH.lb hg⟩
                · show (execOp τ o).run P w = .ok (.value (.string ⟨bs.toArray⟩)) (w.freeze ⟨q.b, 0, none⟩ n)
                  have hy'' : τ y = .int .i64 (n : Int) := hy'
                  simp [execOp, hop, hx', hy'', resolve, invoke, builtin, hrun]
                · unfold World.freeze
                  rw [if_neg (by omega)]
                  show (w.heap.modify q.b _)[j]? = _
                  rw [Array.getElem?_modify, if_neg (Ne.symm hj)]
                · unfold World.freeze; split <;> simp
                · unfold World.freeze; split <;> rfl
                · unfold World.freeze; split <;> rfl
                · unfold World.freeze; split <;> rfl
                · show Value.string _ = .string ⟨(bytesN n N).toArray⟩
                  rw [← h9, hlen]
        | _ => trivial
    · rename_i hsx
      rw [hsx] at hx
      have hx' : τ x = .pointer none := hx
      cases hn : Nat.beq n 0 with
      | false => trivial
      | true =>
        obtain rfl := Nat.eq_of_beq_eq_true hn
        have := Lib.run_unsafeString_none (P := P) (w := w) t u o.type none
        have hy'' : τ y = .int .i64 0 := hy'
        exact ⟨.string .empty, by simp [execOp, hop, hx', hy'', resolve, invoke, builtin, this], rfl⟩
    · trivial
  · trivial
theorem sat_callF {f : Operand} {xs : Array Operand} {ts : Array TypeId} (hop : o.op = .call ⟨.value f, xs, ts⟩) (hf : Rl ρ (σ f) (τ f)) (hxs : ∀ x ∈ xs.toList, Rl ρ (σ x) (τ x)) : Sat P W ρ g V nx w ((execOp τ o).run P w) (opCall P g nx σ (.value f) xs ts) := by
  unfold opCall
  dsimp only
  cases hs : σ f with
  | fn k a b =>
    rw [hs] at hf
    obtain ⟨A, B, hf, h1, h2⟩ := hf
    have hall : RL ρ (app a (mapO σ xs.toList b)) (A ++ xs.map τ ++ B).toList := by
      have := h1.app (mapO_ok hxs h2)
      simpa [List.append_assoc] using this
    refine ⟨A ++ xs.map τ ++ B, ?_, hall⟩
    simp only [execOp, hop, resolve, hf, Deferred.ofValue, invoke]
    simp
  | _ => trivial
theorem op_ok (hH : HR ρ g V w) (hn : ¬ V nx) (hρ : ∀ x ∈ o.op.operands.toList, Rl ρ (σ x) (τ x)) : Sat P W ρ g V nx w ((execOp τ o).run P w) (opK o.op P g nx σ o) := by
  cases hop : o.op with
  | move x => rw [hop] at hρ; exact ⟨τ x, by simp [execOp, hop], hρ x (by simp [Op.operands])⟩
  | assign x => rw [hop] at hρ; exact ⟨τ x, by simp [execOp, hop], hρ x (by simp [Op.operands])⟩
  | pick c a b => rw [hop] at hρ; exact sat_pick hop (hρ c (by simp [Op.operands])) (hρ a (by simp [Op.operands])) (hρ b (by simp [Op.operands]))
  | alloc t => exact sat_alloc hH hn hop
  | box t x => rw [hop] at hρ; exact sat_box hH hn hop (hρ x (by simp [Op.operands]))
  | build t ps => rw [hop] at hρ; exact sat_build hop fun q hq => hρ q.2 (by simp [Op.operands]; exact ⟨q.1, by simpa using hq⟩)
  | buildSlice t n ps => rw [hop] at hρ; exact sat_fill hH hn hop fun q hq => hρ q.2 (by simp [Op.operands]; exact ⟨q.1, by simpa using hq⟩)
  | insert t m k x => rw [hop] at hρ; exact sat_update hH (.inr hop) (hρ m (by simp [Op.operands])) (hρ k (by simp [Op.operands])) (hρ x (by simp [Op.operands]))
  | load t x => rw [hop] at hρ; exact sat_load hH hop (hρ x (by simp [Op.operands]))
  | store t x y => rw [hop] at hρ; exact sat_store hH hop (hρ x (by simp [Op.operands])) (hρ y (by simp [Op.operands]))
  | nilCheck x => rw [hop] at hρ; exact sat_nil hop (hρ x (by simp [Op.operands]))
  | binOp op t x y u => rw [hop] at hρ; exact sat_bin hop (hρ x (by simp [Op.operands])) (hρ y (by simp [Op.operands]))
  | unOp op t x => rw [hop] at hρ; exact sat_un hop (hρ x (by simp [Op.operands]))
  | convert s d x => rw [hop] at hρ; exact sat_cv hH hop (hρ x (by simp [Op.operands]))
  | makeInterface t x => rw [hop] at hρ; exact sat_mki hop (hρ x (by simp [Op.operands]))
  | makeFunc fn a b => rw [hop] at hρ; exact sat_mkf hop (fun x hx => hρ x (by simp [Op.operands]; exact .inl (by simpa using hx))) (fun x hx => hρ x (by simp [Op.operands]; exact .inr (by simpa using hx)))
  | makeMap t r => exact sat_mkm hH hn hop
  | makeSlice t l c => rw [hop] at hρ; exact sat_make hH hn hop (hρ l (by simp [Op.operands])) (hρ c (by simp [Op.operands]))
  | slice t x lo hi mx => rw [hop] at hρ; exact sat_slice hop (hρ x (by simp [Op.operands])) (fun y hy => hρ y (by simp [Op.operands, hy])) (fun y hy => hρ y (by simp [Op.operands, hy]))
  | fieldAddr t x f => rw [hop] at hρ; exact sat_fieldAddr hop (hρ x (by simp [Op.operands]))
  | field t x f => rw [hop] at hρ; exact sat_field hop (hρ x (by simp [Op.operands]))
  | indexAddr t x ix => rw [hop] at hρ; exact sat_indexAddr hop (hρ x (by simp [Op.operands])) (hρ ix (by simp [Op.operands]))
  | index t x ix => rw [hop] at hρ; exact sat_index hop (hρ x (by simp [Op.operands])) (hρ ix (by simp [Op.operands]))
  | lookup t m k ok => rw [hop] at hρ; exact sat_lookup hH hop (hρ m (by simp [Op.operands])) (hρ k (by simp [Op.operands]))
  | mapUpdate t m k x => rw [hop] at hρ; exact sat_update hH (.inl hop) (hρ m (by simp [Op.operands])) (hρ k (by simp [Op.operands])) (hρ x (by simp [Op.operands]))
  | typeAssert x xt t ok => rw [hop] at hρ; exact sat_assert hop (hρ x (by simp [Op.operands]))
  | extract x i => rw [hop] at hρ; exact sat_extract hop (hρ x (by simp [Op.operands]))
  | call c =>
    obtain ⟨ce, xs, ts⟩ := c
    rw [hop] at hρ
    show Sat P W ρ g V nx w _ (opCall P g nx σ ce xs ts)
    cases ce with
    | value f => exact sat_callF hop (hρ f (by simp [Op.operands, Call.operands])) fun x hx => hρ x (by simp [Op.operands, Call.operands]; exact .inr (by simpa using hx))
    | invoke r m => trivial
    | builtin b =>
      show Sat P W ρ g V nx w _ (opBuiltin P g nx σ b ts.toList xs.toList)
      have hxs : ∀ x ∈ xs.toList, Rl ρ (σ x) (τ x) := fun x hx => hρ x (by simp [Op.operands, Call.operands]; simpa using hx)
      obtain ⟨xs⟩ := xs
      obtain ⟨ts⟩ := ts
      simp only at hxs
      cases b with
      | len =>
        rcases xs with _ | ⟨x, _ | ⟨y, xs⟩⟩ <;> first | trivial | skip
        rcases ts with _ | ⟨t, _ | ⟨t2, ts⟩⟩ <;> first | trivial | skip
        exact sat_len hH hop (hxs x (by simp))
      | append =>
        rcases xs with _ | ⟨x, _ | ⟨y, _ | ⟨z, xs⟩⟩⟩ <;> first | trivial | skip
        rcases ts with _ | ⟨t, _ | ⟨t2, _ | ⟨t3, ts⟩⟩⟩ <;> first | trivial | skip
        exact sat_append hH hn hop (hxs x (by simp)) (hxs y (by simp))
      | min =>
        rcases xs with _ | ⟨x, _ | ⟨y, _ | ⟨z, xs⟩⟩⟩ <;> first | trivial | skip
        exact sat_mm (big := false) hop (hxs x (by simp)) (hxs y (by simp))
      | max =>
        rcases xs with _ | ⟨x, _ | ⟨y, _ | ⟨z, xs⟩⟩⟩ <;> first | trivial | skip
        exact sat_mm (big := true) hop (hxs x (by simp)) (hxs y (by simp))
      | cap =>
        rcases xs with _ | ⟨x, _ | ⟨y, xs⟩⟩ <;> first | trivial | skip
        rcases ts with _ | ⟨t, _ | ⟨t2, ts⟩⟩ <;> first | trivial | skip
        exact sat_cap hop (hxs x (by simp))
      | copy =>
        rcases xs with _ | ⟨x, _ | ⟨y, _ | ⟨z, xs⟩⟩⟩ <;> first | trivial | skip
        rcases ts with _ | ⟨t, _ | ⟨t2, _ | ⟨t3, ts⟩⟩⟩ <;> first | trivial | skip
        exact sat_copy0 hop (hxs x (by simp)) (hxs y (by simp))
      | unsafeSliceData =>
        rcases xs with _ | ⟨x, _ | ⟨y, xs⟩⟩ <;> first | trivial | skip
        exact sat_sd hop (hxs x (by simp))
      | unsafeString =>
        rcases xs with _ | ⟨x, _ | ⟨y, _ | ⟨z, xs⟩⟩⟩ <;> first | trivial | skip
        rcases ts with _ | ⟨t, _ | ⟨t2, _ | ⟨t3, ts⟩⟩⟩ <;> first | trivial | skip
        exact sat_us hH hop (hxs x (by simp)) (hxs y (by simp))
      | _ => trivial
  | _ => trivial
end
end Go.Proofs.YtpehnaffepfabaaGreatDoor.Rx
namespace Go.Proofs.YtpehnaffepfabaaGreatDoor.Rx
open Go Go.RowKit
structure KR (ρ : Nm) (n : Nat) (env : Env) (a : Act) : Prop where
  size : n ≤ a.tmps.size
  defers : a.defers = []
  val : ∀ k, Rl ρ (lk k env) (a.tmps.getD k undef)
section
variable {W : Nat → Prop} {ρ ρ' : Nm} {g : Get} {V : Nat → Prop} {w : World} {P : Program} {o : Oper} {n : Nat} {env : Env} {a : Act}
theorem lk_c (k j : Nat) (v : RV) (e : Env) : lk k (.c j v e) = if k = j then v else lk k e := by
  show Bool.rec (motive := fun _ => RV) (lk k e) v (Nat.beq k j) = _
  rw [brec_ite]
  simp only [Nat.beq_eq]
theorem KR.up (h : KR ρ n env a) (hu : Up ρ ρ') : KR ρ' n env a := ⟨h.size, h.defers, fun k => (h.val k).up hu⟩
theorem KR.put (h : KR ρ n env a) {d : Nat} {x : RV} {v : Value} (hd : d < n) (hx : Rl ρ x v) : KR ρ n (.c d x env) (a.put (some d) v) := by
  refine ⟨?_, h.defers, fun k => ?_⟩
  · show n ≤ (a.tmps.setIfInBounds d v).size
    rw [Array.size_setIfInBounds]; exact h.size
  · rw [lk_c]
    show Rl ρ _ ((a.tmps.setIfInBounds d v).getD k undef)
    rw [Array.getD_eq_getD_getElem?, Array.getElem?_setIfInBounds]
    by_cases hk : k = d
    · subst hk
      rw [if_pos rfl, if_pos rfl, if_pos (by have := h.size; omega)]
      exact hx
    · rw [if_neg hk, if_neg (Ne.symm hk), ← Array.getD_eq_getD_getElem?]
      exact h.val k
theorem KR.putD (h : KR ρ n env a) {d : Option Nat} {x : RV} {v : Value} (hd : ∀ e, d = some e → e < n) (hx : Rl ρ x v) : KR ρ n (putD env d x) (a.put d v) := by
  cases d with
  | none => exact h
  | some d => exact h.put (hd d rfl) hx
theorem prune_lk (e : Env) (k : Nat) : ∀ e0 : Env, lk k (prune e e0) = lk k e ∨ lk k (prune e e0) = .po := by
  intro e0
  induction e0 with
  | nl => exact .inr rfl
  | c j v r ih =>
    show lk k (.c j (lk j e) (prune e r)) = _ ∨ lk k (.c j (lk j e) (prune e r)) = _
    rw [lk_c]
    by_cases h : k = j
    · rw [if_pos h, h]; exact .inl rfl
    · rw [if_neg h]; exact ih
theorem KR.prune (h : KR ρ n env a) (e0 : Env) : KR ρ n (prune env e0) a := ⟨h.size, h.defers, fun k => by
  rcases prune_lk env k e0 with e | e
  · rw [e]; exact h.val k
  · rw [e]; trivial⟩
theorem KR.ev (h : KR ρ n env a) (hH : HR ρ g V w) (x : Operand) : Rl ρ (evR env x) (a.eval x) := by
  cases x with
  | tmp k => exact h.val k
  | const v => exact ofV_ok v
  | global q =>
    show Rl ρ (Bool.rec (motive := fun _ => RV) .po (.p q 0) (Nat.blt q 64)) _
    cases hq : Nat.blt q 64 with
    | false => trivial
    | true =>
      obtain ⟨p, h1, h2⟩ := hH.glob q (Nat.le_of_ble_eq_true hq)
      exact ⟨p, h1, by rw [h2]; rfl⟩
  | func f => exact ⟨#[], #[], rfl, rfl, rfl⟩
theorem slotL_ok {ops : Array Oper} {j : Nat} : slotL ops.toList j = (ops[j]?).bind (·.dst) := by
  unfold slotL
  rw [Array.getElem?_toList]
  cases ops[j]? <;> rfl
theorem guard_of {ops : Array Oper} (h : ∀ j b d, o.guard = some (j, b) → (ops[j]?).bind (·.dst) = some d → Rl ρ (lk d env) (a.tmps.getD d undef)) {b : Bool} (hg : guardR ops.toList env o.guard = some b) : Region.wanted o (yielded ops a.tmps) = b := by
  unfold Region.wanted
  cases hq : o.guard with
  | none => rw [hq] at hg; exact Option.some.inj (show some true = some b from hg)
  | some gb =>
    obtain ⟨j, want⟩ := gb
    rw [hq] at hg
    replace hg : (Option.rec none (fun d => match lk d env with
      | .b c => some (eqB c want)
      | .un => some false
      | _ => none) (slotL ops.toList j) : Option Bool) = some b := hg
    rw [slotL_ok] at hg
    simp only
    unfold yielded
    cases hs : (ops[j]?).bind (·.dst) with
    | none => rw [hs] at hg; cases hg
    | some d =>
      rw [hs] at hg
      dsimp only at hg
      have hv := h j want d hq hs
      rw [Array.getD_eq_getD_getElem?] at hv
      rw [Option.bind_some]
      cases hl : lk d env with
      | b c =>
        rw [hl] at hv hg
        replace hv : a.tmps[d]?.getD undef = .bool c := hv
        cases ht : a.tmps[d]? with
        | none => rw [ht] at hv; cases hv
        | some u =>
          rw [ht] at hv
          replace hv : u = .bool c := hv
          subst hv
          rw [← Option.some.inj (show some (eqB c want) = some b from hg)]
          cases c <;> cases want <;> rfl
      | un =>
        rw [hl] at hv hg
        replace hv : a.tmps[d]?.getD undef = undef := hv
        rw [← Option.some.inj (show some false = some b from hg)]
        cases ht : a.tmps[d]? with
        | none => rfl
        | some u =>
          rw [ht] at hv
          replace hv : u = undef := hv
          subst hv
          rfl
      | _ => rw [hl] at hg; cases hg
theorem guard_ok {ops : Array Oper} (h : KR ρ n env a) {b : Bool} (hg : guardR ops.toList env o.guard = some b) : Region.wanted o (yielded ops a.tmps) = b := guard_of (fun _ _ d _ _ => h.val d) hg
end
def Hp.names (h : Hp) : Nat → Prop := fun r => r < h.next
def WH (h : Hp) : Nat → Prop := fun r => mayW h.lo h.ro r = true
def Go1 (ρ : Nm) (h : Hp) (w : World) (ρ' : Nm) (h' : Hp) (w' : World) : Prop := To (WH h) ρ h.tr.get h.names w ρ' h'.tr.get h'.names w' ∧ h'.lo = h.lo ∧ h'.ro = h.ro
theorem Go1.trans {ρ ρ' ρ'' : Nm} {h h' h'' : Hp} {w w' w'' : World} (a : Go1 ρ h w ρ' h' w') (b : Go1 ρ' h' w' ρ'' h'' w'') : Go1 ρ h w ρ'' h'' w'' := by
  obtain ⟨a1, a2, a3⟩ := a
  obtain ⟨b1, b2, b3⟩ := b
  have e : WH h' = WH h := by unfold WH; rw [a2, a3]
  rw [e] at b1
  exact ⟨a1.trans b1, b2.trans a2, b3.trans a3⟩
theorem Go1.refl {ρ : Nm} {h : Hp} {w : World} (hH : HR ρ h.tr.get h.names w) : Go1 ρ h w ρ h w := ⟨To.refl hH, rfl, rfl⟩
def Reach (P : Program) (f : FuncId) (vs : Array Value) (w : World) (Q : Value → World → Prop) : Prop := (∃ V w', (callFunc f vs).run P w = .ok (.value V) w' ∧ Q V w') ∨ ((callFunc f vs).run P w = .ok (.enter f vs) w ∧ Calls P f vs w fun e w' => ∃ V, e = .returned V ∧ Q V w')
theorem Reach.upon {P : Program} {f : FuncId} {vs : Array Value} {w : World} {Q0 : Value → World → Prop} {o : Oper} {a : Act} {K : Act → World → Prop} {Q : Exit → Act → World → Prop} (h : Reach P f vs w Q0) (hK : ∀ V w', Q0 V w' → K (a.put o.dst V) w') : o.upon P a K Q ((callFunc f vs).run P w) := by
  rcases h with ⟨V, w', e, h⟩ | ⟨e, h⟩
  · rw [e]; exact hK V w' h
  · rw [e]
    refine h.mono ?_
    rintro e w' ⟨V, rfl, h1⟩
    exact hK V w' h1
def CallOk (P : Program) (call : FuncId → RV → Hp → Rs) : Prop := ∀ f args h v h', call f args h = .ok v h' → ∀ ρ w (vs : Array Value), RL ρ args vs.toList → HR ρ h.tr.get h.names w → Reach P f vs w fun V w' => ∃ ρ', Rl ρ' v V ∧ Go1 ρ h w ρ' h' w'
section
variable {ρ : Nm} {w : World} {P : Program} {n : Nat} {env : Env} {a : Act} {h : Hp} {call : FuncId → RV → Hp → Rs} {ops : Array Oper} {Q : Exit → Act → World → Prop}
theorem an_wp (hC : CallOk P call) (hH : HR ρ h.tr.get h.names w) (hK : KR ρ n env a) {o : Oper} (hd : ∀ e, o.dst = some e → e < n) {k : Env → Hp → Out} {out : Out} (he : anR call h env o.dst k (opK o.op P h.tr.get h.next (evR env) o) = out) (hno : out ≠ .no) {K : Act → World → Prop}
    (hk : ∀ v env' h' ρ' w', k env' h' = out → KR ρ' n env' (a.put o.dst v) → Go1 ρ h w ρ' h' w' → K (a.put o.dst v) w') : o.wp P a w K Q := by
  have hS := op_ok (W := WH h) (P := P) (o := o) (σ := evR env) (τ := a.eval) (nx := h.next) hH (Nat.lt_irrefl _) fun x _ => hK.ev hH x
  unfold Oper.wp
  cases hA : opK o.op P h.tr.get h.next (evR env) o with
  | v x =>
    rw [hA] at hS he
    obtain ⟨V, h1, h2⟩ := hS
    rw [h1]
    exact hk _ _ _ ρ _ he (hK.putD hd h2) (Go1.refl hH)
  | nw x ro =>
    rw [hA] at hS he
    obtain ⟨V, w', q, h1, h2, h3, h4⟩ := hS
    rw [h1]
    have e : (h.nw ro).tr.get = upd h.tr.get h.next ro := put_upd h4
    have e0 : (h.nw ro).names = ins h.names h.next := (ins_lt h.next).symm
    exact hk _ _ _ _ _ he ((hK.up (h2.up hH)).putD hd h3) ⟨by rw [e, e0]; exact h2, rfl, rfl⟩
  | st r ro =>
    rw [hA] at hS he
    replace he : (Bool.rec .no (k (putD env o.dst .un) (h.st r ro)) (mayW h.lo h.ro r) : Out) = out := he
    cases hm : mayW h.lo h.ro r with
    | false => rw [hm] at he; exact absurd he.symm hno
    | true =>
      rw [hm] at he
      obtain ⟨w', h1, h2, h3⟩ := hS hm
      rw [h1]
      have e : (h.st r ro).tr.get = upd h.tr.get r ro := put_upd h3
      exact hk _ _ _ _ _ he (hK.putD hd rfl) ⟨by rw [e]; exact h2, rfl, rfl⟩
  | up x r ro =>
    rw [hA] at hS he
    replace he : (Bool.rec .no (k (putD env o.dst x) (h.st r ro)) (mayW h.lo h.ro r) : Out) = out := he
    cases hm : mayW h.lo h.ro r with
    | false => rw [hm] at he; exact absurd he.symm hno
    | true =>
      rw [hm] at he
      obtain ⟨V, w', h1, h2, h4, h3⟩ := hS hm
      rw [h1]
      have e : (h.st r ro).tr.get = upd h.tr.get r ro := put_upd h3
      exact hk _ _ _ _ _ he (hK.putD hd h4) ⟨by rw [e]; exact h2, rfl, rfl⟩
  | ap x r ro =>
    rw [hA] at hS he
    replace he : (Bool.rec .no (k (putD env o.dst x) ((h.st r .dead).nw ro)) (mayW h.lo h.ro r) : Out) = out := he
    cases hm : mayW h.lo h.ro r with
    | false => rw [hm] at he; exact absurd he.symm hno
    | true =>
      rw [hm] at he
      obtain ⟨V, w', q, h1, h2, h4, h5, h3⟩ := hS hm
      rw [h1]
      have e : ((h.st r .dead).nw ro).tr.get = upd (upd h.tr.get r .dead) h.next ro := by
        have e1 : (h.st r .dead).tr.get = upd h.tr.get r .dead := put_upd h3
        show ((h.st r .dead).tr.put 30 h.next ro).get = _
        rw [put_upd h5, e1]
      have e0 : ((h.st r .dead).nw ro).names = ins h.names h.next := (ins_lt h.next).symm
      exact hk _ _ _ _ _ he ((hK.up (h2.up hH)).putD hd h4) ⟨by rw [e, e0]; exact h2, rfl, rfl⟩
  | e f args =>
    rw [hA] at hS he
    replace he : (Rs.rec (fun v h => k (putD env o.dst v) h) .no (call f args h) : Out) = out := he
    cases hc : call f args h with
    | no => rw [hc] at he; exact absurd he.symm hno
    | ok v h' =>
      rw [hc] at he
      obtain ⟨vs, h1, h2⟩ := hS
      rw [h1]
      refine (hC f args h v h' hc ρ w vs h2 hH).upon ?_
      rintro V w' ⟨ρ', h3, h4⟩
      exact hk _ _ _ _ _ he ((hK.up (h4.1.up hH)).putD hd h3) h4
  | no => rw [hA] at he; exact absurd he.symm hno
theorem an_ok (hC : CallOk P call) (hH : HR ρ h.tr.get h.names w) (hK : KR ρ n env a) {o : Oper} {i : Nat} {rest : List Nat} (ho : ops[i]? = some o) (hd : ∀ e, o.dst = some e → e < n) (hw : Region.wanted o (yielded ops a.tmps) = true) {k : Env → Hp → Out} {out : Out} (he : anR call h env o.dst k (opK o.op P h.tr.get h.next (evR env) o) = out) (hno : out ≠ .no)
    (hk : ∀ env' h' ρ' a' w', k env' h' = out → KR ρ' n env' a' → Go1 ρ h w ρ' h' w' → wpOps P ops Q rest a' w') : wpOps P ops Q (i :: rest) a w := by
  unfold wpOps
  rw [ho]
  simp only
  rw [if_pos hw]
  left
  exact an_wp hC hH hK hd he hno fun v env' h' ρ' w' h1 h2 h3 => hk env' h' ρ' _ w' h1 h2 h3
theorem ops_ok (hC : CallOk P call) : ∀ (l : List Oper) (i : Nat) {env env' : Env} {h h' : Hp} {x : Ex} {ρ : Nm} {w : World} {a : Act}, ops.toList.drop i = l → (∀ o ∈ l, ∀ e, o.dst = some e → e < n) → opsR P call ops.toList l env h = .ok x env' h' → HR ρ h.tr.get h.names w → KR ρ n env a → (∀ ρ' a' w', x = .nm → KR ρ' n env' a' → Go1 ρ h w ρ' h' w' → Q .normal a' w') → wpOps P ops Q (List.range' i l.length) a w := by
  intro l
  induction l with
  | nil =>
    intro i env env' h h' x ρ w a _ _ he hH hK hQ
    injection (show Out.ok .nm env h = .ok x env' h' from he) with h1 h2 h3
    subst h1 h2 h3
    exact hQ ρ a w rfl hK (Go1.refl hH)
  | cons o l ih =>
    intro i env env' h h' x ρ w a hi hd he hH hK hQ
    have ho : ops[i]? = some o := by
      have := congrArg List.head? hi
      rw [List.head?_drop] at this
      simpa using this
    have hi' : ops.toList.drop (i + 1) = l := by
      have := congrArg List.tail hi
      rwa [List.tail_drop] at this
    have hd' : ∀ o' ∈ l, ∀ e, o'.dst = some e → e < n := fun o' h1 => hd o' (List.mem_cons_of_mem _ h1)
    show wpOps P ops Q (i :: List.range' (i + 1) l.length) a w
    replace he : (Option.rec .no (fun g => Bool.rec (opsR P call ops.toList l (putD env o.dst .un) h) (anR call h env o.dst (opsR P call ops.toList l) (opK o.op P h.tr.get h.next (evR env) o)) g) (guardR ops.toList env o.guard) : Out) = .ok x env' h' := he
    cases hg : guardR ops.toList env o.guard with
    | none => rw [hg] at he; cases he
    | some b =>
      rw [hg] at he
      have hw := guard_ok hK hg
      cases b with
      | false =>
        unfold wpOps
        rw [ho]
        simp only
        rw [if_neg (by rw [hw]; decide)]
        exact ih (i + 1) hi' hd' he hH (hK.putD (hd o List.mem_cons_self) rfl) hQ
      | true =>
        refine an_ok hC hH hK ho (hd o List.mem_cons_self) hw he (by simp) fun env1 h1 ρ1 a1 w1 e1 k1 g1 => ?_
        exact ih (i + 1) hi' hd' e1 g1.1.hr k1 fun ρ' a' w' hx k2 g2 => hQ ρ' a' w' hx k2 (g1.trans g2)
def exOf : Ex → Exit
  | .nm => .normal
  | .ex id => .exit id
  | .rt => .ret
def DrawOk (P : Program) : Prop := ∀ call, CallOk P call → ∀ N (ops : Array Oper) id env h x env' h', drawR P call N ops.toList env h = .ok x env' h' → ∀ ρ a w (Q : Exit → Act → World → Prop), KR ρ N env a → HR ρ h.tr.get h.names w → (∀ ρ' a' w', x = .nm → KR ρ' N env' a' → Go1 ρ h w ρ' h' w' → Q .normal a' w') → (Code.region id ops true).wp P Q a w
def CodeOk (P : Program) (f : Nat) : Prop := ∀ N c env h x env' h', run P f N c env h = .ok x env' h' → ∀ ρ a w (Q : Exit → Act → World → Prop), KR ρ N env a → HR ρ h.tr.get h.names w → (∀ ρ' a' w', KR ρ' N env' a' → Go1 ρ h w ρ' h' w' → Q (exOf x) a' w') → c.wp P Q a w
def LoopOk (P : Program) (f : Nat) : Prop := ∀ N b env h x env' h', run P f N (.loop b) env h = .ok x env' h' → ∀ ρ a w (Q : Exit → Act → World → Prop), KR ρ N env a → HR ρ h.tr.get h.names w → (∀ ρ' a' w', KR ρ' N env' a' → Go1 ρ h w ρ' h' w' → Q (exOf x) a' w') → Code.rounds P b Q f a w
theorem args0_lk {ρ : Nm} : ∀ {x : RV} {l : List Value} (j : Nat), RL ρ x l → ∀ k, lk k (args0 x j) = .po ∨ ∃ i v, k = j + i ∧ l[i]? = some v ∧ Rl ρ (lk k (args0 x j)) v := by
  intro x
  induction x with
  | nl => intro l j h k; exact .inl rfl
  | cn hd tl _ ih =>
    rintro l j ⟨v, m, rfl, h1, h2⟩ k
    show lk k (.c j hd (args0 tl (j + 1))) = .po ∨ ∃ i u, k = j + i ∧ (v :: m)[i]? = some u ∧ Rl ρ (lk k (.c j hd (args0 tl (j + 1)))) u
    rw [lk_c]
    by_cases hk : k = j
    · rw [if_pos hk]; exact .inr ⟨0, v, by omega, rfl, h1⟩
    · rw [if_neg hk]
      rcases ih (j + 1) h2 k with h3 | ⟨i, u, h3, h4, h5⟩
      · exact .inl h3
      · exact .inr ⟨i + 1, u, by omega, by simpa using h4, h5⟩
  | _ => intro l j h; exact h.elim
theorem bodyOf_ok {f : FuncId} {q : Func × Code} (h : bodyOf P f = some q) : P.funcs[f]? = some q.1 ∧ q.1.body = some q.2 ∧ q.1.name ≠ "runtime.NumGoroutine" := by
  unfold bodyOf at h
  split at h
  · cases h
  · rename_i fn hf
    split at h
    · cases h
    · rename_i b hb
      cases hn : (fn.name == "runtime.NumGoroutine") with
      | true => rw [hn] at h; cases h
      | false =>
        rw [hn] at h
        obtain rfl := Option.some.inj h
        exact ⟨hf, hb, by simpa using hn⟩
theorem en_ok {f : FuncId} {q : Func × Code} (h : bodyOf P f = some q) : En P f := by
  obtain ⟨h1, h2, h3⟩ := bodyOf_ok h
  intro args w
  simp [callFunc, h1, h2, h3, Sem.run]
end
end Go.Proofs.YtpehnaffepfabaaGreatDoor.Rx
namespace Go.Proofs.YtpehnaffepfabaaGreatDoor.Rx
open Go Go.RowKit
section
variable {ρ : Nm} {w : World} {P : Program} {n : Nat} {env : Env} {a : Act} {h : Hp} {Q : Exit → Act → World → Prop}
def rv1 (tmps : Array Value) (x : ResultVar) : Sem Value := match x with
  | .tmp t => pure (tmps.getD t undef)
  | .cell b t => do loadVar t (← asAddr (tmps.getD b undef))
theorem results_eq (fn : Func) (tmps : Array Value) : results fn tmps = (fn.results.mapM (rv1 tmps)).bind fun vs => .pure (if h : vs.size = 1 then vs[0] else .tuple vs) := rfl
theorem res_ok (hK : KR ρ n env a) (hH : HR ρ h.tr.get h.names w) : ∀ {l : List ResultVar} {vs : RV}, resR P h env l = some vs → ∃ us : List Value, (l.mapM (rv1 a.tmps)).run P w = .ok us w ∧ RL ρ vs us := by
  intro l
  induction l with
  | nil => intro vs hr; obtain rfl := Option.some.inj (show some RV.nl = some vs from hr); exact ⟨[], by simp, rfl⟩
  | cons r l ih =>
    intro vs hr
    replace hr : (Option.rec none (fun v => Option.rec none (fun vs => some (.cn v vs)) (resR P h env l)) (resR1 P h env r) : Option RV) = some vs := hr
    cases h1 : resR1 P h env r with
    | none => rw [h1] at hr; cases hr
    | some v =>
      rw [h1] at hr
      replace hr : (Option.rec none (fun vs => some (.cn v vs)) (resR P h env l) : Option RV) = some vs := hr
      cases h2 : resR P h env l with
      | none => rw [h2] at hr; cases hr
      | some vs' =>
        rw [h2] at hr
        obtain rfl := Option.some.inj (show some (RV.cn v vs') = some vs from hr)
        obtain ⟨us, h3, h4⟩ := ih h2
        cases r with
        | tmp t =>
          obtain rfl := Option.some.inj (show some (lk t env) = some v from h1)
          refine ⟨a.tmps.getD t undef :: us, ?_, _, _, rfl, hK.val t, h4⟩
          have h5 : (rv1 a.tmps (.tmp t)).run P w = .ok (a.tmps.getD t undef) w := rfl
          rw [List.mapM_cons, Sem.run_bind, h5]
          simp [h3]
        | cell b t =>
          replace h1 : ldCells P h.tr.get t (lk b env) = some v := h1
          obtain ⟨ad, u, h5, h6, h7⟩ := ld_ok hH (hK.val b) h1
          refine ⟨u :: us, ?_, _, _, rfl, h7, h4⟩
          have h8 : (rv1 a.tmps (.cell b t)).run P w = .ok u w := by
            show (do let x ← asAddr (a.tmps.getD b undef); loadVar t x : Sem Value).run P w = _
            rw [h5]
            exact h6
          rw [List.mapM_cons, Sem.run_bind, h8]
          simp [h3]
theorem tup_ok {vs : RV} {us : List Value} (h : RL ρ vs us) : Rl ρ (tup vs) (if h : us.toArray.size = 1 then us.toArray[0] else .tuple us.toArray) := by
  cases vs with
  | nl => rw [show us = [] from h]; exact ⟨#[], rfl, rfl⟩
  | cn v t =>
    obtain ⟨x, y, rfl, h1, h2⟩ := h
    cases t with
    | nl => rw [show y = [] from h2]; exact h1
    | cn v2 t2 =>
      obtain ⟨x2, y2, rfl, h3, h4⟩ := h2
      rw [dif_neg (by simp)]
      exact ⟨_, rfl, x, _, rfl, h1, x2, y2, rfl, h3, h4⟩
    | _ => exact h2.elim
  | _ => exact h.elim
theorem ret_ok {fn : Func} {x : Ex} {v : RV} {h' : Hp} (hr : retR P fn (.ok x env h) = .ok v h') (hK : KR ρ n env a) (hH : HR ρ h.tr.get h.names w) : h' = h ∧ (x = .nm ∨ x = .rt) ∧ ∃ V, (results fn a.tmps).run P w = .ok V w ∧ Rl ρ v V := by
  have key : (Option.rec .no (fun vs => .ok (tup vs) h) (resR P h env fn.results.toList) : Rs) = .ok v h' → h' = h ∧ ∃ V, (results fn a.tmps).run P w = .ok V w ∧ Rl ρ v V := by
    intro hr
    cases h1 : resR P h env fn.results.toList with
    | none => rw [h1] at hr; cases hr
    | some vs =>
      rw [h1] at hr
      injection (show Rs.ok (tup vs) h = .ok v h' from hr) with e1 e2
      subst e1 e2
      obtain ⟨us, h2, h3⟩ := res_ok (P := P) hK hH h1
      refine ⟨rfl, _, ?_, tup_ok h3⟩
      have h4 : (fn.results.mapM (rv1 a.tmps)).run P w = .ok us.toArray w := by
        rw [Array.mapM_eq_mapM_toList]
        simp [h2]
      rw [results_eq]
      show (((fn.results.mapM (rv1 a.tmps)) >>= fun vs => (pure (if h : vs.size = 1 then vs[0] else .tuple vs) : Sem Value)) : Sem Value).run P w = _
      rw [Sem.run_bind, h4]
      rfl
  cases x with
  | nm => obtain ⟨h1, h2⟩ := key hr; exact ⟨h1, .inl rfl, h2⟩
  | rt => obtain ⟨h1, h2⟩ := key hr; exact ⟨h1, .inr rfl, h2⟩
  | ex id => cases hr
theorem ext_next {fn : Func} (hn : fn.name = "internal/abi.NoEscape") (ho : fn.origin = "") : Extern.findNext fn = none := by
  unfold Extern.findNext
  rw [hn, ho]
  have h1 : Extern.allNextRows.lookup "internal/abi.NoEscape" = none := by kernel_rfl
  have h2 : Extern.allNextRows.lookup "" = none := by kernel_rfl
  simp only [h1, h2]; rfl
theorem ext_find {fn : Func} (hn : fn.name = "internal/abi.NoEscape") : Extern.find fn = some Extern.AbiNoEscape.same := by
  unfold Extern.find
  rw [hn]
  have h1 : Extern.allGenericRows.lookup "internal/abi.NoEscape" = none := by kernel_rfl
  have h2 : Extern.allTypedRows.lookup "internal/abi.NoEscape" = none := by kernel_rfl
  have h3 : Extern.allRows.lookup "internal/abi.NoEscape" = some Extern.AbiNoEscape.same := by kernel_rfl
  simp only [h1, h2, h3]; rfl
theorem ext_nextM {fn : Func} (hn : fn.name = "internal/bytealg.MakeNoZero") (ho : fn.origin = "") : Extern.findNext fn = none := by
  unfold Extern.findNext
  rw [hn, ho]
  have h1 : Extern.allNextRows.lookup "internal/bytealg.MakeNoZero" = none := by kernel_rfl
  have h2 : Extern.allNextRows.lookup "" = none := by kernel_rfl
  simp only [h1, h2]; rfl
theorem ext_findM {fn : Func} (hn : fn.name = "internal/bytealg.MakeNoZero") : Extern.find fn = some (Extern.BytealgMakeNoZero.makeNoZero fn.params fn.resultTypes) := by
  unfold Extern.find
  rw [hn]
  have h1 : Extern.allGenericRows.lookup "internal/bytealg.MakeNoZero" = none := by kernel_rfl
  have h2 : Extern.allTypedRows.lookup "internal/bytealg.MakeNoZero" = some Extern.BytealgMakeNoZero.makeNoZero := by kernel_rfl
  simp only [h1, h2]; rfl
theorem extK_ok {f : FuncId} {q : Option TypeId} (h : extK P f = some q) : ∃ fn, P.funcs[f]? = some fn ∧ fn.body = none ∧ fn.origin = "" ∧ ((q = none ∧ fn.name = "internal/abi.NoEscape") ∨ ∃ t e, q = some e ∧ fn.name = "internal/bytealg.MakeNoZero" ∧ fn.resultTypes = #[t] ∧ P.underlying t = some (.slice e)) := by
  unfold extK at h
  split at h
  · cases h
  · rename_i fn hf
    split at h
    · cases h
    · rename_i hb
      cases ho : (fn.origin == "") with
      | false => rw [ho] at h; cases h
      | true =>
        rw [ho] at h
        dsimp only [cond] at h
        cases h1 : (fn.name == "internal/abi.NoEscape") with
        | true =>
          rw [h1] at h
          exact ⟨fn, hf, hb, by simpa using ho, .inl ⟨(Option.some.inj h).symm, by simpa using h1⟩⟩
        | false =>
          rw [h1] at h
          dsimp only at h
          cases h2 : (fn.name == "internal/bytealg.MakeNoZero") with
          | false => rw [h2] at h; cases h
          | true =>
            rw [h2] at h
            dsimp only at h
            split at h
            · rename_i t ht
              split at h
              · rename_i e he
                exact ⟨fn, hf, hb, by simpa using ho, .inr ⟨t, e, (Option.some.inj h).symm, by simpa using h2, Array.toList_inj.1 ht, he⟩⟩
              · cases h
            · cases h
theorem ext_ok {f : FuncId} {args : RV} {h h' : Hp} {v : RV} (hr : extR P f args h = .ok v h') {ρ : Nm} {w : World} {vs : Array Value} (hvs : RL ρ args vs.toList) (hH : HR ρ h.tr.get h.names w) : Reach P f vs w fun V w' => ∃ ρ', Rl ρ' v V ∧ Go1 ρ h w ρ' h' w' := by
  left
  unfold extR at hr
  split at hr
  · rename_i hk
    obtain ⟨fn, hf, hb, ho, hq⟩ := extK_ok hk
    have hn : fn.name = "internal/abi.NoEscape" := by
      rcases hq with ⟨_, h1⟩ | ⟨_, _, h1, _⟩
      · exact h1
      · cases h1
    split at hr
    · rename_i u
      obtain ⟨x, l, h3, h4, rfl⟩ := hvs
      have h5 : vs = #[x] := Array.toList_inj.1 h3
      subst h5
      injection hr with e1 e2
      subst e1 e2
      refine ⟨x, w, ?_, ρ, h4, Go1.refl hH⟩
      rw [run_callFunc_extern (P := P) (f := f) hf (by rw [hn]; rfl) (by rw [hb]; rfl) (ext_next hn ho) (ext_find hn)]
      rfl
    · cases hr
  · rename_i e hk
    obtain ⟨fn, hf, hb, ho, hq⟩ := extK_ok hk
    obtain ⟨t, hn, hts, hu⟩ : ∃ t, fn.name = "internal/bytealg.MakeNoZero" ∧ fn.resultTypes = #[t] ∧ P.underlying t = some (.slice e) := by
      rcases hq with ⟨h1, _⟩ | ⟨t, e', h1, h2, h3, h4⟩
      · cases h1
      · obtain rfl := Option.some.inj h1; exact ⟨t, h2, h3, h4⟩
    split at hr
    · rename_i n
      cases hc : (Nat.blt n BIG && Nat.blt h.next BIG) with
      | false => rw [hc] at hr; cases hr
      | true =>
        rw [hc] at hr
        rw [Bool.and_eq_true] at hc
        have hnB : n < BIG := Nat.le_of_ble_eq_true hc.1
        have hxB : h.next < BIG := Nat.le_of_ble_eq_true hc.2
        obtain ⟨x, l, h3, h4, rfl⟩ := hvs
        have h5 : vs = #[x] := Array.toList_inj.1 h3
        subst h5
        have h4' : x = .int .i64 (n : Int) := h4
        subst h4'
        injection (show Rs.ok (.sl h.next 0 n (UNK + 1)) (h.nw (.row e 0 .lf)) = .ok v h' from hr) with e1 e2
        subst e1 e2
        obtain ⟨cs, hrun, hle, _⟩ := Lib.run_makeNoZero (P := P) w fn.params t e hu n (by unfold BIG at hnB; omega)
        refine ⟨_, _, by rw [run_callFunc_extern (P := P) (f := f) hf (by rw [hn]; rfl) (by rw [hb]; rfl) (ext_nextM hn ho) (ext_findM hn), hts, hrun]; rfl, ?_⟩
        have hnv : ¬ h.names h.next := Nat.lt_irrefl _
        have hT := To.alloc (W := WH h) (w1 := w.drew.drew) (q := ⟨w.heap.size, cs.size⟩) (o := .row e 0 .lf) (ob := .cells cs e) hH hnv hxB rfl rfl rfl rfl rfl ⟨cs, by
          show (w.drew.drew.heap.push _)[w.heap.size]? = _
          rw [show w.drew.drew.heap = w.heap from rfl, Array.getElem?_push, if_pos rfl], rfl, Nat.zero_le _, fun i x hx => by cases hx⟩ h.tr.get (fun r => .inl rfl)
        have ee : (h.nw (.row e 0 .lf)).tr.get = upd h.tr.get h.next (.row e 0 .lf) := put_upd hxB
        have e0 : (h.nw (.row e 0 .lf)).names = ins h.names h.next := (ins_lt h.next).symm
        exact ⟨_, ⟨⟨w.heap.size, cs.size⟩, ⟨w.heap.size, 0, none⟩, cs.size, upd_same _ _ _, rfl, hle, .inr ⟨1, rfl, .inr ⟨rfl, by show 0 + cs.size * 1 = cs.size; omega⟩⟩⟩, by rw [ee, e0]; exact hT, rfl, rfl⟩
    · cases hr
  · cases hr
theorem call_ok {f : Nat} (hC : CodeOk P f) : CallOk P (callR P (run P f)) := by
  intro k args h v h' hr
  replace hr : (Option.rec (extR P k args h) (fun q => Bool.rec .no (retR P q.1 (run P f q.1.ntmps q.2 (args0 args 0) h)) (Nat.ble (len args) q.1.ntmps)) (bodyOf P k) : Rs) = .ok v h' := hr
  cases hb : bodyOf P k with
  | none => rw [hb] at hr; exact fun ρ w vs hvs hH => ext_ok hr hvs hH
  | some q =>
    rw [hb] at hr
    dsimp only at hr
    refine fun ρ w vs hvs hH => .inr ⟨en_ok hb vs w, ?_⟩
    obtain ⟨h1, h2, h3⟩ := bodyOf_ok hb
    cases hl : Nat.ble (len args) q.1.ntmps with
    | false => rw [hl] at hr; cases hr
    | true =>
      rw [hl] at hr
      dsimp only at hr
      have hlen := hvs.len
      have hle := Nat.le_of_ble_eq_true hl
      cases ho : run P f q.1.ntmps q.2 (args0 args 0) h with
      | no => rw [ho] at hr; cases hr
      | ok x env' h1' =>
        rw [ho] at hr
        refine calls_of_wp h1 h2 (hC _ _ _ _ _ _ _ ho ρ _ w _ ⟨?_, rfl, fun k => ?_⟩ hH fun ρ' a' w' hK' hG => ?_)
        · rw [Array.size_append, Array.size_replicate]; omega
        · rcases args0_lk 0 hvs k with e | ⟨i, u, e1, e2, e3⟩
          · rw [e]; trivial
          · rw [Array.getD_eq_getD_getElem?, Array.getElem?_append_left (by have := (List.getElem?_eq_some_iff.1 e2).1; simpa [e1] using this)]
            rw [Nat.zero_add] at e1
            subst e1
            have e4 : vs[k]? = some u := by simpa using e2
            rw [e4]; exact e3
        · obtain ⟨e1, e2, V, e3, e4⟩ := ret_ok hr hK' hG.1.hr
          subst e1
          rcases e2 with rfl | rfl <;> exact ⟨hK'.defers, V, e3, V, rfl, ρ', e4, hG⟩
theorem dst_ok {n : Nat} {l : List Oper} (h : dstOk n l = true) : ∀ o ∈ l, ∀ e, o.dst = some e → e < n := by
  intro o ho e he
  have := List.all_eq_true.1 h o ho
  rw [he] at this
  exact Nat.le_of_ble_eq_true this
theorem sq_ok {k : Env → Hp → Out} {o : Out} {x : Ex} {env' : Env} {h' : Hp} (hs : sq k o = .ok x env' h') : ∃ x1 env1 h1, o = .ok x1 env1 h1 ∧ ((x1 = .nm ∧ k env1 h1 = .ok x env' h') ∨ (x1 ≠ .nm ∧ x1 = x ∧ env1 = env' ∧ h1 = h')) := by
  cases o with
  | no => cases hs
  | ok x1 env1 h1 =>
    refine ⟨x1, env1, h1, rfl, ?_⟩
    cases x1 with
    | nm => exact .inl ⟨rfl, hs⟩
    | ex id => injection (show Out.ok (.ex id) env1 h1 = .ok x env' h' from hs) with e1 e2 e3; exact .inr ⟨by simp, e1, e2, e3⟩
    | rt => injection (show Out.ok .rt env1 h1 = .ok x env' h' from hs) with e1 e2 e3; exact .inr ⟨by simp, e1, e2, e3⟩
theorem all_ok (hD : DrawOk P) : ∀ f, CodeOk P f ∧ LoopOk P f := by
  intro f
  induction f with
  | zero => exact ⟨fun N c env h x env' h' hr => (by cases hr), fun N b env h x env' h' hr => (by cases hr)⟩
  | succ f ih =>
    obtain ⟨ihC, ihL⟩ := ih
    have hloop : LoopOk P (f + 1) := by
      intro N b env h x env' h' hr ρ a w Q hK hH hQ
      replace hr : sq (fun e h => run P f N (.loop b) (prune e env) h) (run P f N b env h) = .ok x env' h' := hr
      obtain ⟨x1, env1, h1, ho, hs⟩ := sq_ok hr
      rw [rounds_succ]
      refine ihC N b env h x1 env1 h1 ho ρ a w _ hK hH fun ρ1 a1 w1 hK1 hG1 => ?_
      rcases hs with ⟨rfl, hs⟩ | ⟨hne, rfl, rfl, rfl⟩
      · exact ihL N b _ h1 x env' h' hs ρ1 a1 w1 Q (hK1.prune env) hG1.1.hr fun ρ' a' w' hK' hG' => hQ ρ' a' w' hK' (hG1.trans hG')
      · cases x1 with
        | nm => exact absurd rfl hne
        | ex id => exact hQ ρ1 a1 w1 hK1 hG1
        | rt => exact hQ ρ1 a1 w1 hK1 hG1
    refine ⟨?_, hloop⟩
    intro N c env h x env' h' hr ρ a w Q hK hH hQ
    cases c with
    | skip =>
      injection (show Out.ok .nm env h = .ok x env' h' from hr) with e1 e2 e3
      subst e1 e2 e3
      exact wp_skip (hQ ρ a w hK (Go1.refl hH))
    | label l =>
      injection (show Out.ok .nm env h = .ok x env' h' from hr) with e1 e2 e3
      subst e1 e2 e3
      exact wp_label (hQ ρ a w hK (Go1.refl hH))
    | exit id =>
      injection (show Out.ok (.ex id) env h = .ok x env' h' from hr) with e1 e2 e3
      subst e1 e2 e3
      exact wp_exit (hQ ρ a w hK (Go1.refl hH))
    | ret =>
      injection (show Out.ok .rt env h = .ok x env' h' from hr) with e1 e2 e3
      subst e1 e2 e3
      exact wp_ret (hQ ρ a w hK (Go1.refl hH))
    | seq c1 c2 =>
      obtain ⟨x1, env1, h1, ho, hs⟩ := sq_ok (show sq (run P f N c2) (run P f N c1 env h) = .ok x env' h' from hr)
      refine wp_seq (ihC N c1 env h x1 env1 h1 ho ρ a w _ hK hH fun ρ1 a1 w1 hK1 hG1 => ?_)
      rcases hs with ⟨rfl, hs⟩ | ⟨hne, rfl, rfl, rfl⟩
      · exact ihC N c2 env1 h1 x env' h' hs ρ1 a1 w1 Q hK1 hG1.1.hr fun ρ' a' w' hK' hG' => hQ ρ' a' w' hK' (hG1.trans hG')
      · cases x1 with
        | nm => exact absurd rfl hne
        | ex id => exact hQ ρ1 a1 w1 hK1 hG1
        | rt => exact hQ ρ1 a1 w1 hK1 hG1
    | cond c1 cx cy =>
      replace hr : cnd (evR env c1) (run P f N cx env h) (run P f N cy env h) = .ok x env' h' := hr
      have hv := hK.ev hH c1
      cases he : evR env c1 with
      | b t =>
        rw [he] at hr hv
        replace hv : a.eval c1 = .bool t := hv
        refine wp_cond hv ?_
        cases t with
        | true => exact ihC N cx env h x env' h' hr ρ a w Q hK hH hQ
        | false => exact ihC N cy env h x env' h' hr ρ a w Q hK hH hQ
      | _ => rw [he] at hr; cases hr
    | block id b =>
      replace hr : blk id (run P f N b env h) = .ok x env' h' := hr
      cases ho : run P f N b env h with
      | no => rw [ho] at hr; cases hr
      | ok x1 env1 h1 =>
        rw [ho] at hr
        refine wp_block (ihC N b env h x1 env1 h1 ho ρ a w _ hK hH fun ρ1 a1 w1 hK1 hG1 => ?_)
        cases x1 with
        | nm =>
          injection (show Out.ok .nm env1 h1 = .ok x env' h' from hr) with e1 e2 e3
          subst e1 e2 e3
          exact hQ ρ1 a1 w1 hK1 hG1
        | rt =>
          injection (show Out.ok .rt env1 h1 = .ok x env' h' from hr) with e1 e2 e3
          subst e1 e2 e3
          exact hQ ρ1 a1 w1 hK1 hG1
        | ex i =>
          injection (show Out.ok (Bool.rec (motive := fun _ => Ex) (.ex i) .nm (Nat.beq i id)) env1 h1 = .ok x env' h' from hr) with e1 e2 e3
          subst e2 e3
          show if i = id then Q .normal a1 w1 else Q (.exit i) a1 w1
          cases hb : Nat.beq i id with
          | true =>
            rw [hb] at e1
            subst e1
            rw [if_pos (Nat.eq_of_beq_eq_true hb)]
            exact hQ ρ1 a1 w1 hK1 hG1
          | false =>
            rw [hb] at e1
            subst e1
            rw [if_neg (Nat.ne_of_beq_eq_false hb)]
            exact hQ ρ1 a1 w1 hK1 hG1
    | loop b => exact wp_loop_rounds (f + 1) (hloop N b env h x env' h' hr ρ a w Q hK hH hQ)
    | region id ops d =>
      cases d with
      | true => exact hD _ (call_ok ihC) N ops id env h x env' h' hr ρ a w Q hK hH fun ρ' a' w' hx hK' hG' => by subst hx; exact hQ ρ' a' w' hK' hG'
      | false =>
        replace hr : (Bool.rec .no (opsR P (callR P (run P f)) ops.toList ops.toList env h) (dstOk N ops.toList) : Out) = .ok x env' h' := hr
        cases hd : dstOk N ops.toList with
        | false => rw [hd] at hr; cases hr
        | true =>
          rw [hd] at hr
          refine wp_region ?_
          have := ops_ok (ops := ops) (Q := Q) (call_ok ihC) ops.toList 0 rfl (dst_ok hd) hr hH hK fun ρ' a' w' hx hK' hG' => by subst hx; exact hQ ρ' a' w' hK' hG'
          rwa [List.range_eq_range', ← Array.length_toList]
    | _ => cases hr
end
end Go.Proofs.YtpehnaffepfabaaGreatDoor.Rx
namespace Go.Proofs.YtpehnaffepfabaaGreatDoor.Rx
open Go Go.RowKit
section
variable {P : Program} {ops : Array Oper} {Q : Exit → Act → World → Prop} {Inv : (Nat → Bool) → Act → World → Prop}
theorem setB {listed : Array Bool} {i j : Nat} (hi : i < listed.size) : (listed.setIfInBounds i true).getD j false = (decide (j = i) || listed.getD j false) := by
  rw [Array.getD_eq_getD_getElem?, Array.getD_eq_getD_getElem?, Array.getElem?_setIfInBounds]
  by_cases h : i = j
  · subst h; simp [hi]
  · rw [if_neg h]; have : j ≠ i := Ne.symm h; simp [this]
def left (listed : Array Bool) : Nat := (listed.toList.filter fun b => !b).length
theorem filter_set : ∀ (l : List Bool) (i : Nat), l[i]? = some false → ((l.set i true).filter fun b => !b).length + 1 = (l.filter fun b => !b).length := by
  intro l
  induction l with
  | nil => intro i h; simp at h
  | cons b l ih =>
    intro i h
    cases i with
    | zero => obtain rfl := Option.some.inj (show some b = some false from h); simp
    | succ i =>
      have := ih i (by simpa using h)
      cases b <;> simp [← this]
theorem left_set {listed : Array Bool} {i : Nat} (hi : i < listed.size) (hf : listed.getD i false = false) : left (listed.setIfInBounds i true) + 1 = left listed := by
  unfold left
  rw [Array.toList_setIfInBounds]
  refine filter_set _ i ?_
  have h2 : listed.toList[i]? = some listed[i] := by simp [hi]
  rw [h2]
  congr 1
  simpa [hi] using hf
theorem left_none {listed : Array Bool} (h : left listed = 0) {i : Nat} (hi : i < listed.size) : listed.getD i false = true := by
  cases hb : listed.getD i false with
  | true => rfl
  | false =>
    have := left_set hi hb
    omega
def Ahead (ops : Array Oper) : Prop := ∀ (i : Nat) (o : Oper), ops[i]? = some o → ∀ e ∈ o.after, Region.binds .any e = true → e.on < i
theorem none_ready (hA : Ahead ops) {listed : Array Bool} (hs : listed.size = ops.size) (h : Region.ready .any ops listed = []) : ∀ i, i < ops.size → listed.getD i false = true := by
  intro i
  induction i using Nat.strongRecOn with
  | _ i ih =>
    intro hi
    cases hb : listed.getD i false with
    | true => rfl
    | false =>
      have : i ∈ Region.ready .any ops listed := mem_ready.2 ⟨by
        have hlt : i < listed.size := by omega
        simpa [hlt] using hb, ops[i], Array.getElem?_eq_getElem hi, fun e he hbe => by
          have := hA i _ (Array.getElem?_eq_getElem hi) e he hbe
          exact ih e.on this (by omega)⟩
      rw [h] at this
      cases this
theorem any_inv (hA : Ahead ops)
    (stp : ∀ (i : Nat) (o : Oper) (a : Act) (w : World) (L : Nat → Bool), ops[i]? = some o → L i = false → (∀ e ∈ o.after, Region.binds .any e = true → L e.on = true) → Inv L a w → ∀ K : Act → World → Prop, (∀ v w', Inv (fun j => decide (j = i) || L j) (a.put o.dst v) w' → K (a.put o.dst v) w') → if Region.wanted o (yielded ops a.tmps) = true then o.wp P a w K Q else K (a.put o.dst undef) w)
    (fin : ∀ L a w, (∀ i, i < ops.size → L i = true) → Inv L a w → Q .normal a w) :
    ∀ (fuel : Nat) (listed : Array Bool) (a : Act) (w : World), listed.size = ops.size → left listed ≤ fuel → Inv (fun i => listed.getD i false) a w → wpAny P .any ops Q fuel listed a w := by
  intro fuel
  induction fuel with
  | zero =>
    intro listed a w hs hl st
    have hall : ∀ i, i < ops.size → listed.getD i false = true := fun i hi => left_none (by omega) (by omega)
    refine ⟨?_, fin _ a w hall st⟩
    apply List.eq_nil_iff_forall_not_mem.2
    intro i hi
    obtain ⟨h1, o, h2, _⟩ := mem_ready.1 hi
    have hlt : i < ops.size := (Array.getElem?_eq_some_iff.1 h2).1
    have := hall i hlt
    have hlt' : i < listed.size := by omega
    simp [hlt'] at h1 this
    rw [h1] at this; cases this
  | succ fuel ih =>
    intro listed a w hs hl st
    refine ⟨fun h => fin _ a w (none_ready hA hs h) st, fun i hi => ?_⟩
    obtain ⟨h1, o, ho, haft⟩ := mem_ready.1 hi
    have hlt : i < ops.size := (Array.getElem?_eq_some_iff.1 ho).1
    have hlt' : i < listed.size := by omega
    have hf : listed.getD i false = false := by simpa [hlt'] using h1
    have key := stp i o a w (fun i => listed.getD i false) ho hf haft st (wpAny P .any ops Q fuel (listed.setIfInBounds i true)) (fun v w' h2 => by
      refine ih _ _ _ (by simp [hs]) (by have := left_set hlt' hf; omega) ?_
      rw [show (fun j => (listed.setIfInBounds i true).getD j false) = fun j => decide (j = i) || listed.getD j false from funext fun j => setB hlt']
      exact h2)
    unfold wpOp
    rw [ho]
    show if Region.wanted o (yielded ops a.tmps) = true then _ else _
    split
    · rename_i hw; rw [if_pos hw] at key; exact .inl key
    · rename_i hw; rw [if_neg hw] at key; exact key
theorem region_inv {id : Nat} {a : Act} {w : World} (hm : P.follows .mixedOrders = true) (hA : Ahead ops) (h0 : Inv (fun _ => false) a w.drew)
    (stp : ∀ (i : Nat) (o : Oper) (a : Act) (w : World) (L : Nat → Bool), ops[i]? = some o → L i = false → (∀ e ∈ o.after, Region.binds .any e = true → L e.on = true) → Inv L a w → ∀ K : Act → World → Prop, (∀ v w', Inv (fun j => decide (j = i) || L j) (a.put o.dst v) w' → K (a.put o.dst v) w') → if Region.wanted o (yielded ops a.tmps) = true then o.wp P a w K Q else K (a.put o.dst undef) w)
    (fin : ∀ L a w, (∀ i, i < ops.size → L i = true) → Inv L a w → Q .normal a w) : (Code.region id ops true).wp P Q a w := by
  refine wp_region_any hm (any_inv hA stp fin ops.size _ a _ (by simp) ?_ ?_)
  · unfold left
    exact Nat.le_trans (List.length_filter_le _ _) (by simp)
  · have hz : (fun i => (Array.replicate ops.size false).getD i false) = fun _ => false := funext fun i => by
      rw [Array.getD_eq_getD_getElem?]
      cases h : (Array.replicate ops.size false)[i]? with
      | none => rfl
      | some b =>
        obtain ⟨h1, h2⟩ := Array.getElem?_eq_some_iff.1 h
        simpa using h2.symm
    rw [hz]; exact h0
end
theorem mem_rowOf {r : Nat} {x : RV} : r ∈ rowOf x ↔ (∃ o, x = .p r o) ∨ (∃ o n c, x = .sl r o n c) ∨ x = .m r := by
  cases x <;> simp [rowOf, eq_comm]
section
variable {P : Program} {g g' : Get} {nx : Nat} {σ : Operand → RV} {o : Oper}
theorem ldCells_congr {t : TypeId} {x : RV} (h : ∀ r ∈ rowOf x, g r = g' r) : ldCells P g t x = ldCells P g' t x := by
  cases x with
  | p r k => unfold ldCells; dsimp only; rw [h r (by simp [rowOf])]
  | _ => rfl
theorem cellsOf_congr {s : Nat} {x : RV} (h : ∀ r ∈ rowOf x, g r = g' r) : cellsOf g s x = cellsOf g' s x := by
  cases x with
  | sl r k n c => unfold cellsOf; dsimp only; rw [h r (by simp [rowOf])]
  | _ => rfl
theorem esOf_congr {x : RV} (h : ∀ r ∈ rowOf x, g r = g' r) : esOf g x = esOf g' x := by
  cases x with
  | m r => unfold esOf; dsimp only; rw [h r (by simp [rowOf])]
  | _ => rfl
theorem opLen_congr {t : TypeId} {x : RV} (h : ∀ r ∈ rowOf x, g r = g' r) : opLen P g t x = opLen P g' t x := by
  cases x with
  | m r => unfold opLen; dsimp only; rw [h r (by simp [rowOf])]
  | _ => rfl
theorem opUpdate_congr {t : TypeId} {m k x : RV} (h : ∀ r ∈ rowOf m, g r = g' r) : opUpdate P g t m k x = opUpdate P g' t m k x := by
  cases m with
  | m r => unfold opUpdate; dsimp only; rw [h r (by simp [rowOf])]
  | _ => rfl
theorem opStore_congr {t : TypeId} {x y : RV} (h : ∀ r ∈ rowOf x, g r = g' r) : opStore P g t x y = opStore P g' t x y := by
  cases x with
  | p r k => unfold opStore stCells; dsimp only; rw [h r (by simp [rowOf])]
  | _ => rfl
theorem ap2_congr {e : TypeId} {s : Nat} {x : RV} {m : Nat} {new : RV} (h : ∀ r ∈ rowOf x, g r = g' r) : ap2 g nx e s x m new = ap2 g' nx e s x m new := by
  cases x with
  | sl r k n c => unfold ap2 apUnk stCells; dsimp only; rw [h r (by simp [rowOf]), cellsOf_congr (x := .sl r k n c) h]
  | _ => rfl
theorem opAppend_congr {t u : TypeId} {x y : RV} (hx : ∀ r ∈ rowOf x, g r = g' r) (hy : ∀ r ∈ rowOf y, g r = g' r) : opAppend P g nx t u x y = opAppend P g' nx t u x y := by
  unfold opAppend
  cases elemS P t with
  | none => rfl
  | some e =>
    dsimp only
    cases sz P e with
    | none => rfl
    | some s =>
      dsimp only
      rw [cellsOf_congr hy]
      cases cellsOf g' s y with
      | none => rfl
      | some q => dsimp only; rw [ap2_congr hx]
theorem opLookup_congr {t : TypeId} {m k : RV} {ok : Bool} (h : ∀ r ∈ rowOf m, g r = g' r) : opLookup P g t m k ok = opLookup P g' t m k ok := by
  unfold opLookup; rw [esOf_congr h]
theorem opCv_congr {s d : TypeId} {x : RV} {e : An} (h : ∀ r ∈ rowOf x, g r = g' r) : opCv P g s d x e = opCv P g' s d x e := by
  cases x with
  | p r k => unfold opCv; dsimp only; rw [h r (by simp [rowOf])]
  | _ => rfl
theorem opUs_congr {t : TypeId} {x y : RV} (h : ∀ r ∈ rowOf x, g r = g' r) : opUs P g t x y = opUs P g' t x y := by
  cases x with
  | p r k =>
    have h0 := h r (by simp [rowOf])
    unfold opUs
    split
    · dsimp only; rw [h0]
    · rfl
  | _ => rfl
theorem op_congr (h : ∀ r ∈ lookers σ o.op, g r = g' r) : opK o.op P g nx σ o = opK o.op P g' nx σ o := by
  have key : ∀ x ∈ o.op.operands.toList, ∀ r ∈ rowOf (σ x), g r = g' r := fun x hx r hr => h r (List.mem_flatMap.2 ⟨x, hx, hr⟩)
  cases hop : o.op with
  | load t x => rw [hop] at key; show opLoad P g t (σ x) = opLoad P g' t (σ x); unfold opLoad; rw [ldCells_congr (key x (by simp [Op.operands]))]
  | store t x y => rw [hop] at key; exact opStore_congr (key x (by simp [Op.operands]))
  | lookup t m k ok => rw [hop] at key; exact opLookup_congr (key m (by simp [Op.operands]))
  | mapUpdate t m k x => rw [hop] at key; exact opUpdate_congr (key m (by simp [Op.operands]))
  | insert t m k x => rw [hop] at key; exact opUpdate_congr (key m (by simp [Op.operands]))
  | call c =>
    obtain ⟨ce, xs, ts⟩ := c
    rw [hop] at key
    show opCall P g nx σ ce xs ts = opCall P g' nx σ ce xs ts
    cases ce with
    | value f => rfl
    | invoke r m => rfl
    | builtin b =>
      show opBuiltin P g nx σ b ts.toList xs.toList = opBuiltin P g' nx σ b ts.toList xs.toList
      have hxs : ∀ x ∈ xs.toList, ∀ r ∈ rowOf (σ x), g r = g' r := fun x hx => key x (by simp [Op.operands, Call.operands]; simpa using hx)
      obtain ⟨xs⟩ := xs
      obtain ⟨ts⟩ := ts
      simp only at hxs
      cases b with
      | len =>
        rcases xs with _ | ⟨x, _ | ⟨y, xs⟩⟩ <;> first | rfl | skip
        rcases ts with _ | ⟨t, _ | ⟨t2, ts⟩⟩ <;> first | rfl | skip
        exact opLen_congr (hxs x (by simp))
      | append =>
        rcases xs with _ | ⟨x, _ | ⟨y, _ | ⟨z, xs⟩⟩⟩ <;> first | rfl | skip
        rcases ts with _ | ⟨t, _ | ⟨t2, _ | ⟨t3, ts⟩⟩⟩ <;> first | rfl | skip
        exact opAppend_congr (hxs x (by simp)) (hxs y (by simp))
      | unsafeString =>
        rcases xs with _ | ⟨x, _ | ⟨y, _ | ⟨z, xs⟩⟩⟩ <;> first | rfl | skip
        rcases ts with _ | ⟨t, _ | ⟨t2, _ | ⟨t3, ts⟩⟩⟩ <;> first | rfl | skip
        exact opUs_congr (hxs x (by simp))
      | _ => rfl
  | convert s d x => rw [hop] at key; exact opCv_congr (key x (by simp [Op.operands]))
  | _ => rfl
end
end Go.Proofs.YtpehnaffepfabaaGreatDoor.Rx
namespace Go.Proofs.YtpehnaffepfabaaGreatDoor.Rx
open Go Go.RowKit
def dep (ops : Array Oper) (i j : Nat) : Bool := inM ((masks ops.toList []).getD i 0) j
structure Geo (ops : Array Oper) (m : Nat) (ord : List Nat) (N : Nat) : Prop where
  len : ord.length = m
  mem : ∀ i : Nat, i < m → ∃ p : Nat, ord[p]? = some i
  lt : ∀ p i : Nat, ord[p]? = some i → i < m
  uniq : ∀ p q i : Nat, ord[p]? = some i → ord[q]? = some i → p = q
  back : ∀ q p j i : Nat, q < p → ord[q]? = some j → ord[p]? = some i → dep ops j i = false
  act : ∀ (q p j i : Nat) (oj : Oper), q < p → ord[q]? = some j → ord[p]? = some i → ops[j]? = some oj → isAct oj = true → dep ops i j = true
  ahead : Ahead ops
  dst : ∀ (i : Nat) (o : Oper) (d : Nat), ops[i]? = some o → o.dst = some d → d < N
  one : ∀ (i j : Nat) (o o' : Oper) (d : Nat), ops[i]? = some o → ops[j]? = some o' → o.dst = some d → o'.dst = some d → i = j
  opd : ∀ (i : Nat) (o : Oper) (t : Nat), ops[i]? = some o → Operand.tmp t ∈ o.op.operands.toList → ∀ (j : Nat) (oj : Oper), ops[j]? = some oj → oj.dst = some t → dep ops i j = true ∨ dep ops j i = true
  grd : ∀ (i : Nat) (o : Oper) (j : Nat) (b : Bool), ops[i]? = some o → o.guard = some (j, b) → dep ops i j = true
  dep_ : ∀ (i : Nat) (o : Oper) (j : Nat), ops[i]? = some o → dep ops i j = true → ∃ e ∈ o.after, Region.binds .any e = true ∧ (e.on = j ∨ dep ops e.on j = true)
  tail : ∀ (i : Nat) (o : Oper), m ≤ i → ops[i]? = some o → ∀ j, j < i → dep ops i j = true
  mle : m ≤ ops.size
inductive StepD (call : FuncId → RV → Hp → Rs) (P : Program) (ops : Array Oper) (h0 : Hp) (i : Nat) (env : Env) (st : Dr) : Env → Dr → Prop
  | skip (o : Oper) (ho : ops[i]? = some o) (hg : guardR ops.toList env o.guard = some false) : StepD call P ops h0 i env st (putD env o.dst .un) st
  | v (o : Oper) (x : RV) (ho : ops[i]? = some o) (hg : guardR ops.toList env o.guard = some true) (hA : opK o.op P st.full.get st.next (evR env) o = .v x) (ha : isAct o = false) (hr : allLt st.next (lookers (evR env) o.op) = true) : StepD call P ops h0 i env st (putD env o.dst x) (laid st i st.full st.next (lookers (evR env) o.op))
  | nw (o : Oper) (x : RV) (ro : RO) (ho : ops[i]? = some o) (hg : guardR ops.toList env o.guard = some true) (hA : opK o.op P st.full.get st.next (evR env) o = .nw x ro) (ha : isAct o = false) (hr : allLt st.next (lookers (evR env) o.op) = true) (hb : st.next < BIG) : StepD call P ops h0 i env st (putD env o.dst x) (laid st i (st.full.put 30 st.next ro) (st.next + 1) (lookers (evR env) o.op))
  | st (o : Oper) (r : Nat) (ro : RO) (ho : ops[i]? = some o) (hg : guardR ops.toList env o.guard = some true) (hA : opK o.op P st.full.get st.next (evR env) o = .st r ro) (ha : isAct o = true) (hw : mayW h0.lo (shut ((masks ops.toList []).getD i 0) h0.ro st.se) r = true) (hn : r < st.next) (hb : r < BIG) : StepD call P ops h0 i env st (putD env o.dst .un) (laid st i (st.full.put 30 r ro) st.next [])
  | e (o : Oper) (f : FuncId) (args : RV) (v : RV) (h : Hp) (ho : ops[i]? = some o) (hg : guardR ops.toList env o.guard = some true) (hA : opK o.op P st.full.get st.next (evR env) o = .e f args) (ha : isAct o = true) (hc : call f args (visH h0 st ((masks ops.toList []).getD i 0)) = .ok v h) (hn : st.next ≤ h.next) (hb : h.next ≤ BIG) : StepD call P ops h0 i env st (putD env o.dst v) (laid st i (backT h0.next st ((masks ops.toList []).getD i 0) h) h.next [])
section
variable {call : FuncId → RV → Hp → Rs} {P : Program} {ops : Array Oper} {h0 : Hp}
theorem stepD_ex {fin : Env → Dr → Out} {i : Nat} {t : List Nat} {env : Env} {st : Dr} {x : Ex} {env' : Env} {h' : Hp} (h : drawA P call ops.toList h0 (masks ops.toList []) fin (i :: t) env st = .ok x env' h') : ∃ env1 st1, StepD call P ops h0 i env st env1 st1 ∧ drawA P call ops.toList h0 (masks ops.toList []) fin t env1 st1 = .ok x env' h' := by
  replace h : (Option.rec .no (fun o => Option.rec .no (fun g => Bool.rec (drawA P call ops.toList h0 (masks ops.toList []) fin t (putD env o.dst .un) st) (anD call h0 st ((masks ops.toList []).getD i 0) i (isAct o) (lookers (evR env) o.op) env o.dst (drawA P call ops.toList h0 (masks ops.toList []) fin t) (opK o.op P st.full.get st.next (evR env) o)) g) (guardR ops.toList env o.guard)) (ops.toList[i]?) : Out) = .ok x env' h' := h
  rw [Array.getElem?_toList] at h
  cases ho : ops[i]? with
  | none => rw [ho] at h; cases h
  | some o =>
    rw [ho] at h
    dsimp only at h
    cases hg : guardR ops.toList env o.guard with
    | none => rw [hg] at h; cases h
    | some g =>
      rw [hg] at h
      dsimp only at h
      cases g with
      | false => exact ⟨_, _, .skip o ho hg, h⟩
      | true =>
        replace h : anD call h0 st ((masks ops.toList []).getD i 0) i (isAct o) (lookers (evR env) o.op) env o.dst (drawA P call ops.toList h0 (masks ops.toList []) fin t) (opK o.op P st.full.get st.next (evR env) o) = .ok x env' h' := h
        cases hA : opK o.op P st.full.get st.next (evR env) o with
        | v y =>
          rw [hA] at h
          unfold anD at h
          dsimp only at h
          cases ha : isAct o with
          | true => rw [ha] at h; cases h
          | false =>
            rw [ha] at h
            dsimp only at h
            cases hr : allLt st.next (lookers (evR env) o.op) with
            | false => rw [hr] at h; cases h
            | true => rw [hr] at h; exact ⟨_, _, .v o y ho hg hA ha hr, h⟩
        | nw y ro =>
          rw [hA] at h
          unfold anD at h
          dsimp only at h
          cases ha : isAct o with
          | true => rw [ha] at h; cases h
          | false =>
            rw [ha] at h
            dsimp only at h
            cases hr : (allLt st.next (lookers (evR env) o.op) && Nat.blt st.next BIG) with
            | false => rw [hr] at h; cases h
            | true =>
              rw [hr] at h
              rw [Bool.and_eq_true] at hr
              exact ⟨_, _, .nw o y ro ho hg hA ha hr.1 (Nat.le_of_ble_eq_true hr.2), h⟩
        | st r ro =>
          rw [hA] at h
          unfold anD at h
          dsimp only at h
          cases hc : (isAct o && mayW h0.lo (shut ((masks ops.toList []).getD i 0) h0.ro st.se) r && seesN h0.next ((masks ops.toList []).getD i 0) st.rg r && Nat.blt r st.next && Nat.blt r BIG) with
          | false => rw [hc] at h; cases h
          | true =>
            rw [hc] at h
            simp only [Bool.and_eq_true] at hc
            obtain ⟨⟨⟨⟨h1, h2⟩, h3⟩, h4⟩, h5⟩ := hc
            exact ⟨_, _, .st o r ro ho hg hA h1 h2 (Nat.le_of_ble_eq_true h4) (Nat.le_of_ble_eq_true h5), h⟩
        | up y r ro => rw [hA] at h; cases h
        | ap y r ro => rw [hA] at h; cases h
        | e f args =>
          rw [hA] at h
          unfold anD at h
          dsimp only at h
          cases ha : isAct o with
          | false => rw [ha] at h; cases h
          | true =>
            rw [ha] at h
            dsimp only at h
            cases hc : call f args (visH h0 st ((masks ops.toList []).getD i 0)) with
            | no => rw [hc] at h; cases h
            | ok v h1 =>
              rw [hc] at h
              dsimp only at h
              cases hl : (Nat.ble st.next h1.next && Nat.ble h1.next BIG) with
              | false => rw [hl] at h; cases h
              | true =>
                rw [hl] at h
                rw [Bool.and_eq_true] at hl
                exact ⟨_, _, .e o f args v h1 ho hg hA ha hc (Nat.le_of_ble_eq_true hl.1) (Nat.le_of_ble_eq_true hl.2), h⟩
        | no => rw [hA] at h; cases h
structure Trc (call : FuncId → RV → Hp → Rs) (P : Program) (ops : Array Oper) (h0 : Hp) (ord : List Nat) (E : Nat → Env) (S : Nat → Dr) : Prop where
  z : S 0 = ⟨h0.tr, h0.next, 0, [], []⟩
  st : ∀ p i, ord[p]? = some i → StepD call P ops h0 i (E p) (S p) (E (p + 1)) (S (p + 1))
theorem trace_ex {fin : Env → Dr → Out} {x : Ex} {env' : Env} {h' : Hp} : ∀ (l : List Nat) (env : Env) (st : Dr), drawA P call ops.toList h0 (masks ops.toList []) fin l env st = .ok x env' h' → ∃ (E : Nat → Env) (S : Nat → Dr), E 0 = env ∧ S 0 = st ∧ (∀ p i, l[p]? = some i → StepD call P ops h0 i (E p) (S p) (E (p + 1)) (S (p + 1))) ∧ fin (E l.length) (S l.length) = .ok x env' h' := by
  intro l
  induction l with
  | nil => intro env st h; exact ⟨fun _ => env, fun _ => st, rfl, rfl, fun p i h => by simp at h, h⟩
  | cons i t ih =>
    intro env st h
    obtain ⟨env1, st1, h1, h2⟩ := stepD_ex h
    obtain ⟨E, S, h3, h4, h5, h6⟩ := ih env1 st1 h2
    refine ⟨fun p => match p with | 0 => env | p + 1 => E p, fun p => match p with | 0 => st | p + 1 => S p, rfl, rfl, fun p j hj => ?_, h6⟩
    cases p with
    | zero =>
      obtain rfl := Option.some.inj (show some i = some j from hj)
      show StepD call P ops h0 i env st (E 0) (S 0)
      rw [h3, h4]; exact h1
    | succ p => exact h5 p j (by simpa using hj)
theorem inM_lor (a b j : Nat) : inM (Nat.lor a b) j = (inM a j || inM b j) := by
  have key : ∀ m, inM m j = m.testBit j := fun m => by
    unfold inM Nat.testBit
    show Nat.beq ((m >>> j) &&& 1) 1 = (1 &&& (m >>> j) != 0)
    rw [Nat.and_comm 1 (m >>> j), Nat.and_one_is_mod]
    rcases Nat.mod_two_eq_zero_or_one (m >>> j) with h | h <;> rw [h] <;> rfl
  rw [key, key, key]
  exact Nat.testBit_or a b j
theorem inM_bit (i j : Nat) : inM (Nat.shiftLeft 1 i) j = decide (i = j) := by
  have key : ∀ m, inM m j = m.testBit j := fun m => by
    unfold inM Nat.testBit
    show Nat.beq ((m >>> j) &&& 1) 1 = (1 &&& (m >>> j) != 0)
    rw [Nat.and_comm 1 (m >>> j), Nat.and_one_is_mod]
    rcases Nat.mod_two_eq_zero_or_one (m >>> j) with h | h <;> rw [h] <;> rfl
  rw [key]
  show (1 <<< i).testBit j = _
  rw [Nat.one_shiftLeft, Nat.testBit_two_pow]
theorem laid_next (st : Dr) (i : Nat) (t : Tr RO) (n : Nat) (rows : List Nat) : (laid st i t n rows).next = n ∧ (laid st i t n rows).full = t := ⟨rfl, rfl⟩
theorem laid_am (st : Dr) (i : Nat) (t : Tr RO) (n : Nat) (rows : List Nat) (j : Nat) : inM (laid st i t n rows).am j = (inM st.am j || (decide (n ≠ st.next) && decide (i = j))) := by
  show inM (Bool.rec (motive := fun _ => Nat) (Nat.lor st.am (Nat.shiftLeft 1 i)) st.am (Nat.beq n st.next)) j = _
  cases h : Nat.beq n st.next with
  | true => have := Nat.eq_of_beq_eq_true h; subst this; simp
  | false =>
    have := Nat.ne_of_beq_eq_false h
    show inM (Nat.lor st.am (Nat.shiftLeft 1 i)) j = _
    rw [inM_lor, inM_bit]; simp [this]
theorem laid_rg (st : Dr) (i : Nat) (t : Tr RO) (n : Nat) (rows : List Nat) : (laid st i t n rows).rg = if n = st.next then st.rg else (i, st.next, n - st.next) :: st.rg := by
  show Bool.rec (motive := fun _ => List (Nat × Nat × Nat)) ((i, st.next, Nat.sub n st.next) :: st.rg) st.rg (Nat.beq n st.next) = _
  cases h : Nat.beq n st.next with
  | true => rw [if_pos (Nat.eq_of_beq_eq_true h)]
  | false => rw [if_neg (Nat.ne_of_beq_eq_false h)]; rfl
theorem laid_se (st : Dr) (i : Nat) (t : Tr RO) (n : Nat) (rows : List Nat) : (laid st i t n rows).se = if rows = [] then st.se else (i, rows) :: st.se := by
  show Bool.rec (motive := fun _ => List (Nat × List Nat)) ((i, rows) :: st.se) st.se rows.isEmpty = _
  cases rows with
  | nil => rfl
  | cons a l => rw [if_neg (by simp)]; rfl
end
end Go.Proofs.YtpehnaffepfabaaGreatDoor.Rx
namespace Go.Proofs.YtpehnaffepfabaaGreatDoor.Rx
open Go Go.RowKit
def actAt (ops : Array Oper) (i : Nat) : Bool := match ops[i]? with
  | some o => isAct o
  | none => false
section
variable {call : FuncId → RV → Hp → Rs} {P : Program} {ops : Array Oper} {h0 : Hp} {i : Nat} {env env' : Env} {st st' : Dr}
theorem step_op (h : StepD call P ops h0 i env st env' st') : ∃ o, ops[i]? = some o := by cases h <;> exact ⟨_, by assumption⟩
theorem step_le (h : StepD call P ops h0 i env st env' st') : st.next ≤ st'.next := by
  cases h with
  | skip => exact Nat.le_refl _
  | v => exact Nat.le_refl _
  | nw => exact Nat.le_succ _
  | st => exact Nat.le_refl _
  | e o f args v h ho hg hA ha hc hn hb => exact hn
theorem step_am (h : StepD call P ops h0 i env st env' st') (j : Nat) : (inM st.am j = true → inM st'.am j = true) ∧ (st'.next ≠ st.next → inM st'.am i = true) := by
  cases h with
  | skip => exact ⟨id, fun h => absurd rfl h⟩
  | _ =>
    rw [laid_am, laid_am]
    refine ⟨fun h => by rw [h]; rfl, fun h => ?_⟩
    rw [(laid_next _ _ _ _ _).1] at h
    first | exact absurd rfl h | simp [h]
theorem step_rg (h : StepD call P ops h0 i env st env' st') : ∀ q ∈ st'.rg, q ∈ st.rg ∨ (q.1 = i ∧ q.2.1 = st.next ∧ q.2.1 + q.2.2 = st'.next) := by
  have key : ∀ (t : Tr RO) (n : Nat) (rows : List Nat), st.next ≤ n → ∀ q ∈ (laid st i t n rows).rg, q ∈ st.rg ∨ (q.1 = i ∧ q.2.1 = st.next ∧ q.2.1 + q.2.2 = (laid st i t n rows).next) := by
    intro t n rows hn q hq
    rw [laid_rg] at hq
    split at hq
    · exact .inl hq
    · rcases List.mem_cons.1 hq with rfl | hq
      · refine .inr ⟨rfl, rfl, ?_⟩
        show st.next + (n - st.next) = n
        omega
      · exact .inl hq
  have hle := step_le h
  cases h with
  | skip => exact fun q hq => .inl hq
  | _ => exact key _ _ _ hle
theorem step_se (h : StepD call P ops h0 i env st env' st') : (∀ q ∈ st.se, q ∈ st'.se) ∧ ∀ o, ops[i]? = some o → isAct o = false → guardR ops.toList env o.guard = some true → lookers (evR env) o.op = [] ∨ (i, lookers (evR env) o.op) ∈ st'.se := by
  have key : ∀ (t : Tr RO) (n : Nat) (rows : List Nat), (∀ q ∈ st.se, q ∈ (laid st i t n rows).se) ∧ (rows = [] ∨ (i, rows) ∈ (laid st i t n rows).se) := by
    intro t n rows
    rw [laid_se]
    split
    · rename_i h; exact ⟨fun q hq => hq, .inl h⟩
    · exact ⟨fun q hq => List.mem_cons_of_mem _ hq, .inr List.mem_cons_self⟩
  cases h with
  | skip o ho hg =>
    refine ⟨fun q hq => hq, fun o' ho' _ hg' => ?_⟩
    rw [ho] at ho'
    obtain rfl := Option.some.inj ho'
    rw [hg] at hg'; cases hg'
  | v o x ho hg hA ha hr =>
    refine ⟨(key _ _ _).1, fun o' ho' _ _ => ?_⟩
    rw [ho] at ho'
    obtain rfl := Option.some.inj ho'
    exact (key _ _ _).2
  | nw o x ro ho hg hA ha hr hb =>
    refine ⟨(key _ _ _).1, fun o' ho' _ _ => ?_⟩
    rw [ho] at ho'
    obtain rfl := Option.some.inj ho'
    exact (key _ _ _).2
  | st o r ro ho hg hA ha hw hn hb =>
    refine ⟨(key _ _ _).1, fun o' ho' ha' _ => ?_⟩
    rw [ho] at ho'
    obtain rfl := Option.some.inj ho'
    rw [ha] at ha'; cases ha'
  | e o f args v h ho hg hA ha hc hn hb =>
    refine ⟨(key _ _ _).1, fun o' ho' ha' _ => ?_⟩
    rw [ho] at ho'
    obtain rfl := Option.some.inj ho'
    rw [ha] at ha'; cases ha'
theorem step_full (h : StepD call P ops h0 i env st env' st') (ha : actAt ops i = false) : (∀ r, r < st.next → st'.full.get r = st.full.get r) ∧ ∀ r o, st'.full.get r = some o → st.full.get r = some o ∨ r < st'.next := by
  have act : ∀ o, ops[i]? = some o → isAct o = true → False := fun o ho h => by
    unfold actAt at ha; rw [ho] at ha; simp only at ha; rw [h] at ha; cases ha
  cases h with
  | skip => exact ⟨fun _ _ => rfl, fun r o h => .inl h⟩
  | v => exact ⟨fun _ _ => rfl, fun r o h => .inl h⟩
  | nw o x ro ho hg hA ha hr hb =>
    refine ⟨fun r hr => get_ne hb (by omega), fun r o h => ?_⟩
    by_cases hrn : r = st.next
    · exact .inr (by rw [hrn]; exact Nat.lt_succ_self _)
    · exact .inl (by rw [← h]; exact (get_ne hb hrn).symm)
  | st o r ro ho hg hA ha => exact (act o ho ha).elim
  | e o f args v h ho hg hA ha => exact (act o ho ha).elim
theorem step_env (h : StepD call P ops h0 i env st env' st') : ∃ o x, ops[i]? = some o ∧ env' = putD env o.dst x := by
  cases h <;> exact ⟨_, _, by assumption, rfl⟩
theorem putD_lk {d : Option Nat} {x : RV} {t : Nat} (h : d ≠ some t) : lk t (putD env d x) = lk t env := by
  cases d with
  | none => rfl
  | some e => show lk t (.c e x env) = _; rw [lk_c, if_neg (fun e' => h (by rw [e']))]
theorem putD_lk_self {x : RV} {t : Nat} : lk t (putD env (some t) x) = x := by show lk t (.c t x env) = _; rw [lk_c, if_pos rfl]
variable {ord : List Nat} {E : Nat → Env} {S : Nat → Dr}
theorem Trc.at_ (T : Trc call P ops h0 ord E S) {p : Nat} (hp : p < ord.length) : ∃ i, ord[p]? = some i ∧ StepD call P ops h0 i (E p) (S p) (E (p + 1)) (S (p + 1)) := ⟨ord[p], List.getElem?_eq_getElem hp, T.st p _ (List.getElem?_eq_getElem hp)⟩
theorem Trc.mono (T : Trc call P ops h0 ord E S) : ∀ (q p : Nat), p ≤ q → q ≤ ord.length → (S p).next ≤ (S q).next := by
  intro q
  induction q with
  | zero => intro p hp _; rw [show p = 0 by omega]; exact Nat.le_refl _
  | succ q ih =>
    intro p hp hq
    rcases Nat.lt_or_ge q p with h | h
    · rw [show p = q + 1 by omega]; exact Nat.le_refl _
    · obtain ⟨i, _, hs⟩ := T.at_ (show q < ord.length by omega)
      exact Nat.le_trans (ih p h (by omega)) (step_le hs)
theorem Trc.lo (T : Trc call P ops h0 ord E S) {p : Nat} (hp : p ≤ ord.length) : h0.next ≤ (S p).next := by
  have := T.mono p 0 (by omega) hp
  rw [T.z] at this
  exact this
theorem Trc.am (T : Trc call P ops h0 ord E S) {p i : Nat} (hi : ord[p]? = some i) (hne : (S (p + 1)).next ≠ (S p).next) : ∀ q, p < q → q ≤ ord.length → inM (S q).am i = true := by
  intro q
  induction q with
  | zero => intro h; omega
  | succ q ih =>
    intro hp hq
    obtain ⟨j, hj, hs⟩ := T.at_ (show q < ord.length by omega)
    rcases Nat.lt_or_ge p q with h | h
    · exact (step_am hs i).1 (ih h (by omega))
    · have : p = q := by omega
      subst this
      rw [hi] at hj
      obtain rfl := Option.some.inj hj
      exact (step_am hs i).2 hne
theorem Trc.rg (T : Trc call P ops h0 ord E S) : ∀ p, p ≤ ord.length → ∀ q ∈ (S p).rg, ∃ p', p' < p ∧ ord[p']? = some q.1 ∧ q.2.1 = (S p').next ∧ q.2.1 + q.2.2 = (S (p' + 1)).next := by
  intro p
  induction p with
  | zero => intro _ q hq; rw [T.z] at hq; cases hq
  | succ p ih =>
    intro hp q hq
    obtain ⟨j, hj, hs⟩ := T.at_ (show p < ord.length by omega)
    rcases step_rg hs q hq with h | ⟨h1, h2, h3⟩
    · obtain ⟨p', h1, h2⟩ := ih (by omega) q h
      exact ⟨p', by omega, h2⟩
    · exact ⟨p, by omega, by rw [h1]; exact hj, h2, h3⟩
theorem Trc.se (T : Trc call P ops h0 ord E S) {p i : Nat} {o : Oper} (hi : ord[p]? = some i) (ho : ops[i]? = some o) (ha : isAct o = false) (hg : guardR ops.toList (E p) o.guard = some true) : ∀ q, p < q → q ≤ ord.length → lookers (evR (E p)) o.op = [] ∨ (i, lookers (evR (E p)) o.op) ∈ (S q).se := by
  intro q
  induction q with
  | zero => intro h; omega
  | succ q ih =>
    intro hp hq
    obtain ⟨j, hj, hs⟩ := T.at_ (show q < ord.length by omega)
    rcases Nat.lt_or_ge p q with h | h
    · exact (ih h (by omega)).imp id ((step_se hs).1 _)
    · have : p = q := by omega
      subst this
      rw [hi] at hj
      obtain rfl := Option.some.inj hj
      exact (step_se hs).2 o ho ha hg
theorem Trc.seg (T : Trc call P ops h0 ord E S) : ∀ (q p : Nat), p ≤ q → q ≤ ord.length → (∀ k i, p ≤ k → k < q → ord[k]? = some i → actAt ops i = false) → (∀ r, r < (S p).next → (S q).full.get r = (S p).full.get r) ∧ ∀ r o, (S q).full.get r = some o → (S p).full.get r = some o ∨ r < (S q).next := by
  intro q
  induction q with
  | zero => intro p hp _ _; rw [show p = 0 by omega]; exact ⟨fun _ _ => rfl, fun _ _ h => .inl h⟩
  | succ q ih =>
    intro p hp hq hn
    rcases Nat.lt_or_ge q p with h | h
    · rw [show p = q + 1 by omega]; exact ⟨fun _ _ => rfl, fun _ _ h => .inl h⟩
    · obtain ⟨j, hj, hs⟩ := T.at_ (show q < ord.length by omega)
      obtain ⟨h1, h2⟩ := ih p h (by omega) fun k i hk hkq => hn k i hk (by omega)
      obtain ⟨h3, h4⟩ := step_full hs (hn q j h (by omega) hj)
      refine ⟨fun r hr => (h3 r (by have := T.mono q p h (by omega); omega)).trans (h1 r hr), fun r o ho => ?_⟩
      rcases h4 r o ho with h5 | h5
      · rcases h2 r o h5 with h6 | h6
        · exact .inl h6
        · exact .inr (by have := step_le hs; omega)
      · exact .inr h5
theorem Trc.slots (T : Trc call P ops h0 ord E S) {t : Nat} : ∀ (q p : Nat), p ≤ q → q ≤ ord.length → (∀ k i o, p ≤ k → k < q → ord[k]? = some i → ops[i]? = some o → o.dst ≠ some t) → lk t (E q) = lk t (E p) := by
  intro q
  induction q with
  | zero => intro p hp _ _; rw [show p = 0 by omega]
  | succ q ih =>
    intro p hp hq hn
    rcases Nat.lt_or_ge q p with h | h
    · rw [show p = q + 1 by omega]
    · obtain ⟨j, hj, hs⟩ := T.at_ (show q < ord.length by omega)
      obtain ⟨o, x, ho, he⟩ := step_env hs
      rw [he, putD_lk (hn q j o h (by omega) hj ho)]
      exact ih p h (by omega) fun k i o hk hkq => hn k i o hk (by omega)
theorem Trc.tile (T : Trc call P ops h0 ord E S) {r : Nat} (h0r : h0.next ≤ r) : ∀ p, p ≤ ord.length → r < (S p).next → ∃ q, q < p ∧ (S q).next ≤ r ∧ r < (S (q + 1)).next := by
  intro p
  induction p with
  | zero => intro _ hr; rw [T.z] at hr; exact absurd hr (by show ¬ r < h0.next; omega)
  | succ p ih =>
    intro hp hr
    rcases Nat.lt_or_ge r (S p).next with h | h
    · obtain ⟨q, h1, h2⟩ := ih (by omega) h
      exact ⟨q, by omega, h2⟩
    · exact ⟨p, by omega, h, hr⟩
theorem Trc.tile1 (T : Trc call P ops h0 ord E S) {r p q : Nat} (hp : p < ord.length) (hq : q < ord.length) (h1 : (S p).next ≤ r ∧ r < (S (p + 1)).next) (h2 : (S q).next ≤ r ∧ r < (S (q + 1)).next) : p = q := by
  rcases Nat.lt_trichotomy p q with h | h | h
  · have := T.mono q (p + 1) h (by omega); omega
  · exact h
  · have := T.mono p (q + 1) h (by omega); omega
end
end Go.Proofs.YtpehnaffepfabaaGreatDoor.Rx
namespace Go.Proofs.YtpehnaffepfabaaGreatDoor.Rx
open Go Go.RowKit
section
variable {call : FuncId → RV → Hp → Rs} {P : Program} {ops : Array Oper} {h0 : Hp} {m N : Nat} {ord : List Nat} {E : Nat → Env} {S : Nat → Dr}
def ps (ops : Array Oper) (ord : List Nat) (L : Nat → Bool) : Nat := ord.findIdx fun i => actAt ops i && !L i
theorem ps_le (L : Nat → Bool) : ps ops ord L ≤ ord.length := List.findIdx_le_length
theorem ps_lt {L : Nat → Bool} {q i : Nat} (hq : q < ps ops ord L) (hi : ord[q]? = some i) (ha : actAt ops i = true) : L i = true := by
  have h := List.not_of_lt_findIdx hq
  obtain ⟨hl, he⟩ := List.getElem?_eq_some_iff.1 hi
  simp only [he, ha, Bool.true_and, Bool.not_eq_true', Bool.not_eq_false] at h
  simpa using h
theorem ps_at {L : Nat → Bool} (h : ps ops ord L < ord.length) : ∃ i, ord[ps ops ord L]? = some i ∧ actAt ops i = true ∧ L i = false := by
  have h1 := List.findIdx_getElem (w := h)
  refine ⟨ord[ps ops ord L], List.getElem?_eq_getElem h, ?_⟩
  have h2 : (actAt ops (ord[ps ops ord L]) && !L (ord[ps ops ord L])) = true := h1
  simpa using h2
def Down (ops : Array Oper) (L : Nat → Bool) : Prop := ∀ (k : Nat) (o : Oper), ops[k]? = some o → L k = true → ∀ e ∈ o.after, Region.binds .any e = true → L e.on = true
theorem dep_ready (G : Geo ops m ord N) {L : Nat → Bool} (hD : Down ops L) {i : Nat} {o : Oper} (ho : ops[i]? = some o) (haft : ∀ e ∈ o.after, Region.binds .any e = true → L e.on = true) {j : Nat} (h : dep ops i j = true) : L j = true := by
  induction i using Nat.strongRecOn generalizing o j with
  | _ i ih =>
    obtain ⟨e, he, hb, h1⟩ := G.dep_ i o j ho h
    have h2 := haft e he hb
    rcases h1 with rfl | h1
    · exact h2
    · have h3 := G.ahead i o ho e he hb
      have hlt : i < ops.size := (Array.getElem?_eq_some_iff.1 ho).1
      have h4 : ops[e.on]? = some (ops[e.on]'(by omega)) := Array.getElem?_eq_getElem (by omega)
      exact ih e.on h3 h4 (hD _ _ h4 h2) h1
theorem dep_down (G : Geo ops m ord N) {L : Nat → Bool} (hD : Down ops L) {i : Nat} {o : Oper} (ho : ops[i]? = some o) (hL : L i = true) {j : Nat} (h : dep ops i j = true) : L j = true := dep_ready G hD ho (hD i o ho hL) h
theorem pos_lt (G : Geo ops m ord N) {L : Nat → Bool} (hD : Down ops L) {k p : Nat} {o : Oper} (ho : ops[k]? = some o) (hk : L k = true) (hp : ord[p]? = some k) : p < ps ops ord L := by
  rcases Nat.lt_or_ge p (ps ops ord L) with h | h
  · exact h
  · have hpl : p < ord.length := (List.getElem?_eq_some_iff.1 hp).1
    obtain ⟨c, hc, ha, hn⟩ := ps_at (ops := ops) (L := L) (show ps ops ord L < ord.length by omega)
    rcases Nat.lt_or_eq_of_le h with h1 | h1
    · cases hoc : ops[c]? with
      | none => unfold actAt at ha; rw [hoc] at ha; cases ha
      | some oc =>
        have ha' : isAct oc = true := by unfold actAt at ha; rw [hoc] at ha; exact ha
        have := dep_down G hD ho hk (G.act _ p c k oc h1 hc hp hoc ha')
        rw [hn] at this; cases this
    · rw [h1, hp] at hc
      obtain rfl := Option.some.inj hc
      rw [hk] at hn; cases hn
def vis (h0 : Hp) (ord : List Nat) (S : Nat → Dr) (L : Nat → Bool) (r : Nat) : Prop := r < h0.next ∨ ∃ p i : Nat, ord[p]? = some i ∧ L i = true ∧ (S p).next ≤ r ∧ r < (S (p + 1)).next
open Classical in
noncomputable def gL (ops : Array Oper) (h0 : Hp) (ord : List Nat) (S : Nat → Dr) (L : Nat → Bool) : Get := fun r => if vis h0 ord S L r then (S (ps ops ord L)).full.get r else none
theorem gL_some {L : Nat → Bool} {r : Nat} {o : RO} (h : gL ops h0 ord S L r = some o) : vis h0 ord S L r ∧ (S (ps ops ord L)).full.get r = some o := by
  unfold gL at h
  split at h
  · exact ⟨by assumption, h⟩
  · cases h
theorem gL_vis {L : Nat → Bool} {r : Nat} (h : vis h0 ord S L r) : gL ops h0 ord S L r = (S (ps ops ord L)).full.get r := by
  unfold gL; rw [if_pos h]
def upL (L : Nat → Bool) (i : Nat) : Nat → Bool := fun j => decide (j = i) || L j
theorem upL_self (L : Nat → Bool) (i : Nat) : upL L i i = true := by unfold upL; simp
theorem upL_ne {L : Nat → Bool} {i j : Nat} (h : j ≠ i) : upL L i j = L j := by unfold upL; simp [h]
theorem upL_of {L : Nat → Bool} {i j : Nat} (h : L j = true) : upL L i j = true := by unfold upL; simp [h]
structure PA (call : FuncId → RV → Hp → Rs) (P : Program) (ops : Array Oper) (h0 : Hp) (m N : Nat) (ord : List Nat) (E : Nat → Env) (S : Nat → Dr) (ρ0 : Nm) (w0 : World) (a0 : Act) (L : Nat → Bool) (a : Act) (w : World) : Prop where
  sub : ∀ k, L k = true → k < m
  down : Down ops L
  size : N ≤ a.tmps.size
  defers : a.defers = []
  outer : ∀ s, (∀ (k : Nat) (o : Oper), ops[k]? = some o → L k = true → o.dst ≠ some s) → a.tmps[s]? = a0.tmps[s]?
  t2 : ∀ r o, (S (ps ops ord L)).full.get r = some o → r < (S (ps ops ord L)).next
  t7 : ∀ (p i : Nat) (o : Oper), p < ps ops ord L → ord[p]? = some i → L i = false → ops[i]? = some o → guardR ops.toList (E p) o.guard = some true → ∀ r ∈ lookers (evR (E p)) o.op, r < (S p).next → (S (ps ops ord L)).full.get r = (S p).full.get r
  t8 : ∀ p i : Nat, p < ps ops ord L → ord[p]? = some i → L i = false → ∀ r, (S p).next ≤ r → r < (S (p + 1)).next → (S (ps ops ord L)).full.get r = (S (p + 1)).full.get r
  ex : ∃ ρ, To (WH h0) ρ0 h0.tr.get h0.names w0 ρ (gL ops h0 ord S L) (vis h0 ord S L) w ∧ ∀ (p k : Nat) (o : Oper) (d : Nat), ord[p]? = some k → ops[k]? = some o → L k = true → o.dst = some d → Rl ρ (lk d (E (p + 1))) (a.tmps.getD d undef)
variable {ρ0 : Nm} {w0 : World} {a0 : Act} {L : Nat → Bool} {a : Act} {w : World}
theorem PA.opd (A : PA call P ops h0 m N ord E S ρ0 w0 a0 L a w) (G : Geo ops m ord N) (T : Trc call P ops h0 ord E S) (hK0 : KR ρ0 N (E 0) a0) (hH0 : HR ρ0 h0.tr.get h0.names w0) {ρ : Nm} (hT : To (WH h0) ρ0 h0.tr.get h0.names w0 ρ (gL ops h0 ord S L) (vis h0 ord S L) w) (hV : ∀ (p k : Nat) (o : Oper) (d : Nat), ord[p]? = some k → ops[k]? = some o → L k = true → o.dst = some d → Rl ρ (lk d (E (p + 1))) (a.tmps.getD d undef)) {p i : Nat} {o : Oper} (hp : ord[p]? = some i) (ho : ops[i]? = some o) (hn : L i = false) (hdep : ∀ j, dep ops i j = true → L j = true) :
    (∀ x ∈ o.op.operands.toList, Rl ρ (evR (E p) x) (a.eval x)) ∧ ∀ j b d, o.guard = some (j, b) → (ops[j]?).bind (·.dst) = some d → Rl ρ (lk d (E p)) (a.tmps.getD d undef) := by
  have hpl : p < ord.length := (List.getElem?_eq_some_iff.1 hp).1
  have told : ∀ (j : Nat) (oj : Oper) (t : Nat), ops[j]? = some oj → oj.dst = some t → dep ops i j = true → Rl ρ (lk t (E p)) (a.tmps.getD t undef) := by
    intro j oj t hj hd hdj
    have hLj := hdep j hdj
    obtain ⟨q, hq⟩ := G.mem j (A.sub j hLj)
    have hqp : q < p := by
      rcases Nat.lt_trichotomy q p with h | h | h
      · exact h
      · subst h; rw [hp] at hq; obtain rfl := Option.some.inj hq; rw [hn] at hLj; cases hLj
      · have := G.back p q i j h hp hq; rw [hdj] at this; cases this
    have e : lk t (E p) = lk t (E (q + 1)) := T.slots p (q + 1) hqp (by omega) fun k i' o' hk hkp hk' ho' hd' => by
      obtain rfl := G.one i' j o' oj t ho' hj hd' hd
      have := G.uniq k q _ hk' hq
      omega
    rw [e]
    exact hV q j oj t hq hj hLj hd
  refine ⟨fun x hx => ?_, fun j b d hg hd => ?_⟩
  · cases x with
    | const v => exact ofV_ok v
    | func f => exact ⟨#[], #[], rfl, rfl, rfl⟩
    | global q =>
      show Rl ρ (Bool.rec (motive := fun _ => RV) .po (.p q 0) (Nat.blt q 64)) _
      cases hq : Nat.blt q 64 with
      | false => trivial
      | true =>
        obtain ⟨pl, h1, h2⟩ := hT.hr.glob q (Nat.le_of_ble_eq_true hq)
        exact ⟨pl, h1, by rw [h2]; rfl⟩
    | tmp t =>
      show Rl ρ (lk t (E p)) (a.tmps.getD t undef)
      by_cases hex : ∃ (j : Nat) (oj : Oper), ops[j]? = some oj ∧ oj.dst = some t
      · obtain ⟨j, oj, hj, hd⟩ := hex
        rcases G.opd i o t ho hx j oj hj hd with h | h
        · exact told j oj t hj hd h
        · have hLj : ∀ (k : Nat) (ok : Oper), ops[k]? = some ok → L k = true → ok.dst ≠ some t := by
            intro k ok hk hLk hdk
            obtain rfl := G.one k j ok oj t hk hj hdk hd
            have := dep_down G A.down hk hLk h
            rw [hn] at this; cases this
          rw [Array.getD_eq_getD_getElem?, A.outer t hLj, ← Array.getD_eq_getD_getElem?]
          have e : lk t (E p) = lk t (E 0) := T.slots p 0 (by omega) (by omega) fun k i' o' _ hkp hk' ho' hd' => by
            obtain rfl := G.one i' j o' oj t ho' hj hd' hd
            have := G.back k p _ i hkp hk' hp
            rw [h] at this; cases this
          rw [e]
          exact (hK0.val t).up (hT.up hH0)
      · have hno : ∀ (k : Nat) (ok : Oper), ops[k]? = some ok → ok.dst ≠ some t := fun k ok hk hd => hex ⟨k, ok, hk, hd⟩
        rw [Array.getD_eq_getD_getElem?, A.outer t (fun k ok hk _ => hno k ok hk), ← Array.getD_eq_getD_getElem?]
        have e : lk t (E p) = lk t (E 0) := T.slots p 0 (by omega) (by omega) fun k i' o' _ _ _ ho' => hno i' o' ho'
        rw [e]
        exact (hK0.val t).up (hT.up hH0)
  · cases hj : ops[j]? with
    | none => rw [hj] at hd; cases hd
    | some oj =>
      rw [hj] at hd
      exact told j oj d hj hd (G.grd i o j b ho hg)
theorem allLt_mem {n : Nat} : ∀ {l : List Nat}, allLt n l = true → ∀ r ∈ l, r < n := by
  intro l
  induction l with
  | nil => intro _ r hr; cases hr
  | cons x l ih =>
    intro h r hr
    replace h : (Bool.rec false (allLt n l) (Nat.blt x n) : Bool) = true := h
    cases hx : Nat.blt x n with
    | false => rw [hx] at h; cases h
    | true =>
      rw [hx] at h
      rcases List.mem_cons.1 hr with rfl | hr
      · exact Nat.le_of_ble_eq_true hx
      · exact ih h r hr
theorem rowOf_name {ρ : Nm} {x : RV} {v : Value} {r : Nat} (h : Rl ρ x v) (hr : r ∈ rowOf x) : ∃ q, ρ r = some q := by
  rcases mem_rowOf.1 hr with ⟨o, rfl⟩ | ⟨o, n, c, rfl⟩ | rfl
  · obtain ⟨q, h1, _⟩ := h; exact ⟨q, h1⟩
  · obtain ⟨q, a, c', h1, _⟩ := h; exact ⟨q, h1⟩
  · obtain ⟨q, h1, _⟩ := h; exact ⟨q, h1⟩
theorem PA.put (A : PA call P ops h0 m N ord E S ρ0 w0 a0 L a w) (G : Geo ops m ord N) (T : Trc call P ops h0 ord E S) {ρ ρ' : Nm} (hu : Up ρ ρ') (hV : ∀ (p k : Nat) (o : Oper) (d : Nat), ord[p]? = some k → ops[k]? = some o → L k = true → o.dst = some d → Rl ρ (lk d (E (p + 1))) (a.tmps.getD d undef)) {p i : Nat} {o : Oper} (hp : ord[p]? = some i) (ho : ops[i]? = some o) {x : RV} {v : Value} (hE : E (p + 1) = putD (E p) o.dst x) (hx : Rl ρ' x v) :
    ∀ (q k : Nat) (o' : Oper) (d : Nat), ord[q]? = some k → ops[k]? = some o' → upL L i k = true → o'.dst = some d → Rl ρ' (lk d (E (q + 1))) ((a.put o.dst v).tmps.getD d undef) := by
  intro q k o' d hq hk hLk hd
  by_cases hki : k = i
  · subst hki
    have := G.uniq q p _ hq hp
    subst this
    rw [ho] at hk
    obtain rfl := Option.some.inj hk
    rw [hE, hd, putD_lk_self]
    show Rl ρ' x ((a.tmps.setIfInBounds d v).getD d undef)
    have hdn := G.dst _ o d ho hd
    rw [Array.getD_eq_getD_getElem?, Array.getElem?_setIfInBounds, if_pos rfl, if_pos (by have := A.size; omega)]
    exact hx
  · rw [upL_ne hki] at hLk
    have h1 := (hV q k o' d hq hk hLk hd).up hu
    cases hod : o.dst with
    | none => exact h1
    | some e =>
      have hne : e ≠ d := fun e' => hki (G.one k i o' o d hk ho hd (by rw [hod, e']))
      show Rl ρ' _ ((a.tmps.setIfInBounds e v).getD d undef)
      rw [Array.getD_eq_getD_getElem?, Array.getElem?_setIfInBounds, if_neg hne, ← Array.getD_eq_getD_getElem?]
      exact h1
theorem PA.outer' (A : PA call P ops h0 m N ord E S ρ0 w0 a0 L a w) {i : Nat} {o : Oper} (ho : ops[i]? = some o) {v : Value} : ∀ s, (∀ (k : Nat) (ok : Oper), ops[k]? = some ok → upL L i k = true → ok.dst ≠ some s) → (a.put o.dst v).tmps[s]? = a0.tmps[s]? := by
  intro s hs
  rw [← A.outer s fun k ok hk hLk => hs k ok hk (upL_of hLk)]
  cases hod : o.dst with
  | none => rfl
  | some e =>
    have := hs i o ho (upL_self _ _)
    show (a.tmps.setIfInBounds e v)[s]? = _
    rw [Array.getElem?_setIfInBounds, if_neg fun e' => this (by rw [hod, e'])]
theorem PA.down' (A : PA call P ops h0 m N ord E S ρ0 w0 a0 L a w) {i : Nat} {o : Oper} (ho : ops[i]? = some o) (haft : ∀ e ∈ o.after, Region.binds .any e = true → L e.on = true) : Down ops (upL L i) := by
  intro k ok hk hLk e he hb
  by_cases hki : k = i
  · subst hki
    rw [ho] at hk
    obtain rfl := Option.some.inj hk
    exact upL_of (haft e he hb)
  · rw [upL_ne hki] at hLk
    exact upL_of (A.down k ok hk hLk e he hb)
theorem size_put' {a : Act} {d : Option Nat} {v : Value} {N : Nat} (h : N ≤ a.tmps.size) : N ≤ (a.put d v).tmps.size := by
  cases d with
  | none => exact h
  | some e => show N ≤ (a.tmps.setIfInBounds e v).size; rw [Array.size_setIfInBounds]; exact h
theorem defers_put' {a : Act} {d : Option Nat} {v : Value} (h : a.defers = []) : (a.put d v).defers = [] := by cases d <;> exact h
end
end Go.Proofs.YtpehnaffepfabaaGreatDoor.Rx
namespace Go.Proofs.YtpehnaffepfabaaGreatDoor.Rx
open Go Go.RowKit
section
variable {call : FuncId → RV → Hp → Rs} {P : Program} {ops : Array Oper} {h0 : Hp} {m N : Nat} {ord : List Nat} {E : Nat → Env} {S : Nat → Dr}
variable {ρ0 : Nm} {w0 : World} {a0 : Act} {L : Nat → Bool} {a : Act} {w : World} {Q : Exit → Act → World → Prop}
theorem vis_up {L L' : Nat → Bool} (h : ∀ k, L k = true → L' k = true) {r : Nat} (hv : vis h0 ord S L r) : vis h0 ord S L' r := hv.elim .inl fun ⟨p, i, h1, h2, h3⟩ => .inr ⟨p, i, h1, h i h2, h3⟩
theorem vis_upL {p i : Nat} (G : Geo ops m ord N) (hp : ord[p]? = some i) {r : Nat} : vis h0 ord S (upL L i) r ↔ vis h0 ord S L r ∨ ((S p).next ≤ r ∧ r < (S (p + 1)).next) := by
  constructor
  · rintro (h | ⟨q, k, hq, hk, hr⟩)
    · exact .inl (.inl h)
    · by_cases hki : k = i
      · subst hki
        have := G.uniq q p _ hq hp
        subst this
        exact .inr hr
      · rw [upL_ne hki] at hk
        exact .inl (.inr ⟨q, k, hq, hk, hr⟩)
  · rintro (h | h)
    · exact vis_up (fun k hk => upL_of hk) h
    · exact .inr ⟨p, i, hp, upL_self _ _, h⟩
theorem vis_lt (G : Geo ops m ord N) (T : Trc call P ops h0 ord E S) (hD : Down ops L) {r : Nat} (hv : vis h0 ord S L r) : r < (S (ps ops ord L)).next := by
  rcases hv with h | ⟨p, i, hp, hi, h1, h2⟩
  · exact Nat.lt_of_lt_of_le h (T.lo (ps_le L))
  · have hpl : p < ord.length := (List.getElem?_eq_some_iff.1 hp).1
    obtain ⟨j, hj, hs⟩ := T.at_ hpl
    obtain ⟨o, ho⟩ := step_op hs
    rw [hp] at hj
    obtain rfl := Option.some.inj hj
    have := pos_lt G hD ho hi hp
    exact Nat.lt_of_lt_of_le h2 (T.mono _ _ this (ps_le L))
theorem PA.seen (A : PA call P ops h0 m N ord E S ρ0 w0 a0 L a w) (G : Geo ops m ord N) {ρ : Nm} (hH : HR ρ (gL ops h0 ord S L) (vis h0 ord S L) w) {p i : Nat} {o : Oper} (hp : ord[p]? = some i) (ho : ops[i]? = some o) (hn : L i = false) (hps : p < ps ops ord L) (hg : guardR ops.toList (E p) o.guard = some true) (hr : allLt (S p).next (lookers (evR (E p)) o.op) = true) (hop : ∀ x ∈ o.op.operands.toList, Rl ρ (evR (E p) x) (a.eval x)) : ∀ r ∈ lookers (evR (E p)) o.op, gL ops h0 ord S L r = (S p).full.get r := by
  intro r hrm
  obtain ⟨x, hx, hrx⟩ := List.mem_flatMap.1 hrm
  obtain ⟨q, hq⟩ := rowOf_name (hop x hx) hrx
  rw [gL_vis (hH.new r q hq)]
  exact A.t7 p i o hps hp hn ho hg r hrm (allLt_mem hr r hrm)
theorem ps_same {i : Nat} (ha : actAt ops i = false) : ps ops ord (upL L i) = ps ops ord L := by
  unfold ps
  congr 1
  funext j
  by_cases h : j = i
  · subst h; rw [ha]; rfl
  · rw [upL_ne h]
theorem newRow_v {nx t : Nat} {cs v x : RV} (h : newRow nx t cs v = .v x) : False := by
  unfold newRow at h
  cases hb : (Nat.blt nx BIG && Nat.blt (len cs) BIG) with
  | false => rw [hb] at h; cases h
  | true => rw [hb] at h; cases h
theorem stCells_v {g : Get} {r k : Nat} {l : RV} {f : RO → An} {x : RV} (hf : ∀ o, f o ≠ .v x) (h : stCells g r k l f = .v x) : False := by
  unfold stCells at h
  cases hg : g r with
  | none => rw [hg] at h; cases h
  | some ob =>
    rw [hg] at h
    cases ob with
    | row u n cs =>
      dsimp only at h
      cases hb : (Nat.ble (k + len l) n && Nat.blt n BIG) with
      | false => rw [hb] at h; cases h
      | true => rw [hb] at h; exact hf _ h
    | _ => cases h
theorem ap2_v {g : Get} {nx e s m : Nat} {y new x : RV} (h : ap2 g nx e s y m new = .v x) : False := by
  unfold ap2 at h
  cases y with
  | sn => exact newRow_v h
  | sl r o n cap =>
    dsimp only at h
    cases h1 : (Nat.blt (n + m) BIG && capOk cap s) with
    | false => rw [h1] at h; cases h
    | true =>
      rw [h1] at h
      dsimp only at h
      cases h2 : Nat.ble UNK cap with
      | false =>
        rw [h2] at h
        dsimp only at h
        cases h3 : Nat.ble (n + m) cap with
        | false =>
          rw [h3] at h
          dsimp only at h
          cases h4 : cellsOf g s (.sl r o n cap) with
          | none => rw [h4] at h; cases h
          | some ol => rw [h4] at h; exact newRow_v h
        | true => rw [h3] at h; exact stCells_v (fun o => by simp) h
      | true =>
        rw [h2] at h
        dsimp only at h
        unfold apUnk at h
        cases h4 : g r with
        | none => rw [h4] at h; cases h
        | some ob =>
          rw [h4] at h
          cases ob with
          | row u k cs =>
            dsimp only at h
            cases h5 : (Nat.blt nx BIG && Nat.blt (k + len new) BIG && Nat.beq (n * s) k && Nat.beq o 0 && Nat.beq u e) with
            | false => rw [h5] at h; cases h
            | true => rw [h5] at h; cases h
          | _ => cases h
  | _ => cases h
theorem op_nx {g : Get} {nx nx' : Nat} {σ : Operand → RV} {o : Oper} {x : RV} (h : opK o.op P g nx σ o = .v x) : opK o.op P g nx' σ o = .v x := by
  cases hop : o.op with
  | alloc t =>
    rw [hop] at h
    replace h : opAlloc P nx t = .v x := h
    unfold opAlloc at h
    cases hz : zeroV P t with
    | none => rw [hz] at h; cases h
    | some z => rw [hz] at h; exact (newRow_v h).elim
  | box t y =>
    rw [hop] at h
    replace h : opBox nx t (σ y) = .v x := h
    unfold opBox at h
    cases hz : kn (σ y) with
    | false => rw [hz] at h; cases h
    | true => rw [hz] at h; exact (newRow_v h).elim
  | buildSlice t n ps =>
    rw [hop] at h
    replace h : opFill P nx σ t n ps.toList = .v x := h
    unfold opFill at h
    cases h1 : elemS P t with
    | none => rw [h1] at h; cases h
    | some e =>
      rw [h1] at h; dsimp only at h
      cases h2 : sz P e with
      | none => rw [h2] at h; cases h
      | some s =>
        rw [h2] at h; dsimp only at h
        cases h3 : zeroV P e with
        | none => rw [h3] at h; cases h
        | some z =>
          rw [h3] at h; dsimp only at h
          cases h4 : (Nat.beq (len (cellsR z)) s && Nat.blt 0 s && Nat.blt nx BIG && Nat.blt (n * s) 16777216) with
          | false => rw [h4] at h; cases h
          | true =>
            rw [h4] at h; dsimp only at h
            cases h5 : fillR (n * s) (fun i => some (i * s, s)) σ ps.toList (wr (rep (cellsR z) n) .lf 0) with
            | none => rw [h5] at h; cases h
            | some cs => rw [h5] at h; cases h
  | makeMap t r =>
    rw [hop] at h
    replace h : (Bool.rec .no (.nw (.m nx) (.map .nl)) (Nat.blt nx BIG && r.isNone) : An) = .v x := h
    cases hb : (Nat.blt nx BIG && r.isNone) with
    | false => rw [hb] at h; cases h
    | true => rw [hb] at h; cases h
  | makeSlice t l c =>
    rw [hop] at h
    replace h : opMake P nx t (σ l) (σ c) = .v x := h
    unfold opMake at h
    cases h1 : elemS P t with
    | none => rw [h1] at h; cases h
    | some e =>
      rw [h1] at h; dsimp only at h
      cases h2 : nat (σ l) with
      | none => rw [h2] at h; cases h
      | some n =>
        rw [h2] at h; dsimp only at h
        cases h3 : nat (σ c) with
        | none => rw [h3] at h; cases h
        | some k =>
          rw [h3] at h; dsimp only at h
          cases h4 : zeroV P e with
          | none => rw [h4] at h; cases h
          | some z =>
            rw [h4] at h; dsimp only at h
            cases h5 : sz P e with
            | none => rw [h5] at h; cases h
            | some s =>
              rw [h5] at h; dsimp only at h
              cases h6 : (Nat.ble n k && Nat.blt k 1000000 && Nat.beq (len (cellsR z)) s && Nat.blt 0 s) with
              | false => rw [h6] at h; cases h
              | true => rw [h6] at h; exact (newRow_v h).elim
  | call c =>
    obtain ⟨ce, xs, ts⟩ := c
    rw [hop] at h
    replace h : opCall P g nx σ ce xs ts = .v x := h
    show opCall P g nx' σ ce xs ts = .v x
    cases ce with
    | value f => exact h
    | invoke r m => exact h
    | builtin b =>
      replace h : opBuiltin P g nx σ b ts.toList xs.toList = .v x := h
      show opBuiltin P g nx' σ b ts.toList xs.toList = .v x
      obtain ⟨xs⟩ := xs
      obtain ⟨ts⟩ := ts
      cases b with
      | append =>
        rcases xs with _ | ⟨x1, _ | ⟨y1, _ | ⟨z1, xs⟩⟩⟩ <;> first | exact h | skip
        rcases ts with _ | ⟨t1, _ | ⟨t2, _ | ⟨t3, ts⟩⟩⟩ <;> first | exact h | skip
        replace h : opAppend P g nx t1 t2 (σ x1) (σ y1) = .v x := h
        unfold opAppend at h
        cases h1 : elemS P t1 with
        | none => rw [h1] at h; cases h
        | some e =>
          rw [h1] at h; dsimp only at h
          cases h2 : sz P e with
          | none => rw [h2] at h; cases h
          | some s =>
            rw [h2] at h; dsimp only at h
            cases h3 : cellsOf g s (σ y1) with
            | none => rw [h3] at h; cases h
            | some q =>
              rw [h3] at h; dsimp only at h
              cases h4 : (Nat.blt q.1 BIG && Nat.blt 0 s && srcOk P t2 s (σ y1) && allOne q.2 && zeroOk P e s) with
              | false => rw [h4] at h; cases h
              | true =>
                rw [h4] at h; dsimp only at h
                cases h5 : Nat.beq q.1 0 with
                | false => rw [h5] at h; exact (ap2_v h).elim
                | true =>
                  rw [h5] at h
                  show opAppend P g nx' t1 t2 (σ x1) (σ y1) = .v x
                  unfold opAppend
                  rw [h1]; dsimp only
                  rw [h2]; dsimp only
                  rw [h3]; dsimp only
                  rw [h4]; dsimp only
                  rw [h5]; exact h
      | _ => exact h
  | _ => rw [hop] at h; exact h
theorem PA.calm (A : PA call P ops h0 m N ord E S ρ0 w0 a0 L a w) (G : Geo ops m ord N) (T : Trc call P ops h0 ord E S) (hK0 : KR ρ0 N (E 0) a0) (hH0 : HR ρ0 h0.tr.get h0.names w0) {i : Nat} {o : Oper} (hi : i < m) (ho : ops[i]? = some o) (hn : L i = false) (haft : ∀ e ∈ o.after, Region.binds .any e = true → L e.on = true) (ha : isAct o = false) {K : Act → World → Prop} (hK : ∀ v w', PA call P ops h0 m N ord E S ρ0 w0 a0 (upL L i) (a.put o.dst v) w' → K (a.put o.dst v) w') : if Region.wanted o (yielded ops a.tmps) = true then o.wp P a w K Q else K (a.put o.dst undef) w := by
  obtain ⟨p, hp⟩ := G.mem i hi
  have hpl : p < ord.length := (List.getElem?_eq_some_iff.1 hp).1
  have hat : actAt ops i = false := by unfold actAt; rw [ho]; exact ha
  have hdep : ∀ j, dep ops i j = true → L j = true := fun j h => dep_ready G A.down ho haft h
  have hps : p < ps ops ord L := by
    rcases Nat.lt_or_ge p (ps ops ord L) with h | h
    · exact h
    · obtain ⟨c, hc, hac, hnc⟩ := ps_at (ops := ops) (L := L) (show ps ops ord L < ord.length by omega)
      rcases Nat.lt_or_eq_of_le h with h1 | h1
      · cases hoc : ops[c]? with
        | none => unfold actAt at hac; rw [hoc] at hac; cases hac
        | some oc =>
          have ha' : isAct oc = true := by unfold actAt at hac; rw [hoc] at hac; exact hac
          have := hdep c (G.act _ p c i oc h1 hc hp hoc ha')
          rw [hnc] at this; cases this
      · rw [h1, hp] at hc
        obtain rfl := Option.some.inj hc
        rw [hat] at hac; cases hac
  obtain ⟨ρ, hT, hV⟩ := A.ex
  obtain ⟨hop, hgd⟩ := A.opd G T hK0 hH0 hT hV hp ho hn hdep
  have hps' : ps ops ord (upL L i) = ps ops ord L := ps_same hat
  have hst := T.st p i hp
  have rest : ∀ {v : Value} {w' : World} {ρ' : Nm} {x : RV}, Up ρ ρ' → E (p + 1) = putD (E p) o.dst x → Rl ρ' x v → To (WH h0) ρ0 h0.tr.get h0.names w0 ρ' (gL ops h0 ord S (upL L i)) (vis h0 ord S (upL L i)) w' → PA call P ops h0 m N ord E S ρ0 w0 a0 (upL L i) (a.put o.dst v) w' := by
    intro v w' ρ' x hu hE hx hT'
    refine ⟨fun k hk => ?_, A.down' ho haft, size_put' A.size, defers_put' A.defers, A.outer' ho, by rw [hps']; exact A.t2, ?_, ?_, ρ', hT', A.put G T hu hV hp ho hE hx⟩
    · by_cases hki : k = i
      · rw [hki]; exact hi
      · rw [upL_ne hki] at hk; exact A.sub k hk
    · intro q k ok hq hqk hk hok hg r hr hrl
      rw [hps'] at hq ⊢
      refine A.t7 q k ok hq hqk ?_ hok hg r hr hrl
      cases hLk : L k with
      | false => rfl
      | true => rw [upL_of hLk] at hk; cases hk
    · intro q k hq hqk hk r h1 h2
      rw [hps'] at hq ⊢
      refine A.t8 q k hq hqk ?_ r h1 h2
      cases hLk : L k with
      | false => rfl
      | true => rw [upL_of hLk] at hk; cases hk
  have same : (S (p + 1)).next = (S p).next → gL ops h0 ord S (upL L i) = gL ops h0 ord S L ∧ vis h0 ord S (upL L i) = vis h0 ord S L := by
    intro he
    have hv : ∀ r, vis h0 ord S (upL L i) r ↔ vis h0 ord S L r := fun r => by
      rw [vis_upL G hp, he]
      exact ⟨fun h => h.elim id fun h => by omega, .inl⟩
    have hv' : vis h0 ord S (upL L i) = vis h0 ord S L := funext fun r => propext (hv r)
    refine ⟨?_, hv'⟩
    funext r
    unfold gL
    rw [hps', hv']
  generalize hE1 : E (p + 1) = env1 at hst
  generalize hS1 : S (p + 1) = st1 at hst
  cases hst with
  | skip o' ho' hg =>
    rw [ho] at ho'
    obtain rfl := Option.some.inj ho'
    have hw := guard_of hgd hg
    rw [if_neg (by rw [hw]; decide)]
    obtain ⟨e1, e2⟩ := same (by rw [hS1])
    exact hK undef w (rest (Up.refl _) hE1 rfl (by rw [e1, e2]; exact hT))
  | v o' x ho' hg hA _ hr =>
    rw [ho] at ho'
    obtain rfl := Option.some.inj ho'
    have hw := guard_of hgd hg
    rw [if_pos hw]
    have hsee := A.seen G hT.hr hp ho hn hps hg hr hop
    have hfr : ¬ vis h0 ord S L (S (ps ops ord L)).next := fun h => Nat.lt_irrefl _ (vis_lt G T A.down h)
    rw [← op_congr (P := P) (nx := (S p).next) hsee] at hA
    have hA2 := op_nx (nx' := (S (ps ops ord L)).next) hA
    have hS := op_ok (W := WH h0) (P := P) (o := o) (σ := evR (E p)) (τ := a.eval) (nx := (S (ps ops ord L)).next) hT.hr hfr hop
    rw [hA2] at hS
    obtain ⟨v, h1, h2⟩ := hS
    unfold Oper.wp
    rw [h1]
    obtain ⟨e1, e2⟩ := same (by rw [hS1]; rfl)
    exact hK v w (rest (Up.refl _) hE1 h2 (by rw [e1, e2]; exact hT))
  | nw o' x ro ho' hg hA _ hr hb =>
    rw [ho] at ho'
    obtain rfl := Option.some.inj ho'
    have hw := guard_of hgd hg
    rw [if_pos hw]
    have hsee := A.seen G hT.hr hp ho hn hps hg hr hop
    have hnext : (S (p + 1)).next = (S p).next + 1 := by rw [hS1]; rfl
    have hfr : ¬ vis h0 ord S L (S p).next := by
      rintro (h | ⟨q, k, hq, hk, h1, h2⟩)
      · have := T.lo (show p ≤ ord.length by omega); omega
      · have := T.tile1 hpl (List.getElem?_eq_some_iff.1 hq).1 ⟨Nat.le_refl _, by omega⟩ ⟨h1, h2⟩
        subst this
        rw [hp] at hq
        obtain rfl := Option.some.inj hq
        rw [hn] at hk; cases hk
    rw [← op_congr (P := P) (nx := (S p).next) hsee] at hA
    have hS := op_ok (W := WH h0) (P := P) (o := o) (σ := evR (E p)) (τ := a.eval) (nx := (S p).next) hT.hr hfr hop
    rw [hA] at hS
    obtain ⟨v, w', q, h1, h2, h3, h4⟩ := hS
    unfold Oper.wp
    rw [h1]
    refine hK v w' (rest (h2.up hT.hr) hE1 h3 ?_)
    have hvis : vis h0 ord S (upL L i) = ins (vis h0 ord S L) (S p).next := funext fun r => propext (by
      rw [vis_upL G hp, hnext]
      exact ⟨fun h => h.elim .inl fun h => .inr (by omega), fun h => h.elim .inl fun h => .inr (by omega)⟩)
    have hgl : gL ops h0 ord S (upL L i) = upd (gL ops h0 ord S L) (S p).next ro := by
      funext r
      by_cases hr' : r = (S p).next
      · subst hr'
        rw [upd_same, gL_vis (by rw [hvis]; exact .inr rfl), hps', A.t8 p i hps hp hn _ (Nat.le_refl _) (by omega), hS1]
        exact get_same hb
      · rw [upd_ne hr']
        unfold gL
        rw [hps', hvis]
        by_cases hv : vis h0 ord S L r
        · rw [if_pos (show ins (vis h0 ord S L) (S p).next r from .inl hv), if_pos hv]
        · rw [if_neg hv, if_neg]
          rintro (h | h)
          · exact hv h
          · exact hr' h
    rw [hvis, hgl]
    exact hT.trans h2
  | st o' r ro ho' hg hA ha' => rw [ho] at ho'; obtain rfl := Option.some.inj ho'; rw [ha] at ha'; cases ha'
  | e o' f args v h ho' hg hA ha' => rw [ho] at ho'; obtain rfl := Option.some.inj ho'; rw [ha] at ha'; cases ha'
end
end Go.Proofs.YtpehnaffepfabaaGreatDoor.Rx
namespace Go.Proofs.YtpehnaffepfabaaGreatDoor.Rx
open Go Go.RowKit
theorem inM_land (a b j : Nat) : inM (Nat.land a b) j = (inM a j && inM b j) := by
  have key : ∀ m, inM m j = m.testBit j := fun m => by
    unfold inM Nat.testBit
    show Nat.beq ((m >>> j) &&& 1) 1 = (1 &&& (m >>> j) != 0)
    rw [Nat.and_comm 1 (m >>> j), Nat.and_one_is_mod]
    rcases Nat.mod_two_eq_zero_or_one (m >>> j) with h | h <;> rw [h] <;> rfl
  rw [key, key, key]
  exact Nat.testBit_and a b j
theorem copyR_get (src : Tr RO) : ∀ (n s : Nat) (t : Tr RO), s + n ≤ BIG → ∀ r, (copyR src n s t).get r = if s ≤ r ∧ r < s + n then (match src.get r with | some o => some o | none => t.get r) else t.get r := by
  intro n
  induction n with
  | zero => intro s t _ r; rw [if_neg (by omega)]; rfl
  | succ n ih =>
    intro s t hb r
    have h1 : (copyR src (n + 1) s t).get r = (copyR src n (s + 1) (match src.get s with | some o => t.put 30 s o | none => t)).get r := by
      show (copyR src n (s + 1) (Option.rec t (fun o => t.put 30 s o) (src.get s))).get r = _
      cases src.get s <;> rfl
    rw [h1, ih (s + 1) _ (by omega) r]
    by_cases hr : s = r
    · subst hr
      rw [if_neg (by omega), if_pos (by omega)]
      cases src.get s with
      | none => rfl
      | some o => exact get_same (by omega)
    · have hsame : (match src.get s with | some o => t.put 30 s o | none => t).get r = t.get r := by
        cases src.get s with
        | none => rfl
        | some o => exact get_ne (by omega) (Ne.symm hr)
      by_cases h2 : s + 1 ≤ r ∧ r < s + 1 + n
      · rw [if_pos h2, if_pos (by omega), hsame]
      · rw [if_neg h2, if_neg (by omega), hsame]
def rgOk (D : Nat) (rg : List (Nat × Nat × Nat)) (r : Nat) : Prop := ∃ q ∈ rg, inM D q.1 = true ∧ q.2.1 ≤ r ∧ r < q.2.1 + q.2.2
theorem visR_get {full : Tr RO} {lo D : Nat} (hlo : lo ≤ BIG) : ∀ {rg : List (Nat × Nat × Nat)}, (∀ q ∈ rg, q.2.1 + q.2.2 ≤ BIG) → ∀ r, ((r < lo ∨ rgOk D rg r) → (visR full lo D rg).get r = full.get r) ∧ (¬ (r < lo ∨ rgOk D rg r) → (visR full lo D rg).get r = none) := by
  intro rg
  induction rg with
  | nil =>
    intro _ r
    have h : (visR full lo D []).get r = if 0 ≤ r ∧ r < 0 + lo then (match full.get r with | some o => some o | none => none) else none := copyR_get full lo 0 .lf (by omega) r
    rw [h]
    refine ⟨fun h => ?_, fun h => if_neg fun h2 => h (.inl (by omega))⟩
    rcases h with h | ⟨q, hq, _⟩
    · rw [if_pos (by omega)]; cases full.get r <;> rfl
    · cases hq
  | cons q rg ih =>
    intro hb r
    have ih' := ih (fun q' hq' => hb q' (List.mem_cons_of_mem _ hq')) r
    have hq := hb q List.mem_cons_self
    have h : (visR full lo D (q :: rg)).get r = if inM D q.1 = true then (copyR full q.2.2 q.2.1 (visR full lo D rg)).get r else (visR full lo D rg).get r := by
      show (Bool.rec (motive := fun _ => Tr RO) (visR full lo D rg) (copyR full q.2.2 q.2.1 (visR full lo D rg)) (inM D q.1)).get r = _
      cases inM D q.1 <;> rfl
    have hsub : ∀ {x : Prop}, (rgOk D (q :: rg) r ↔ ((inM D q.1 = true ∧ q.2.1 ≤ r ∧ r < q.2.1 + q.2.2) ∨ rgOk D rg r)) := by
      intro _
      constructor
      · rintro ⟨q', hq', h1⟩
        rcases List.mem_cons.1 hq' with rfl | hq'
        · exact .inl h1
        · exact .inr ⟨q', hq', h1⟩
      · rintro (h1 | ⟨q', hq', h1⟩)
        · exact ⟨q, List.mem_cons_self, h1⟩
        · exact ⟨q', List.mem_cons_of_mem _ hq', h1⟩
    rw [h, hsub (x := True)]
    cases hd : inM D q.1 with
    | false =>
      rw [if_neg (by simp)]
      refine ⟨fun h1 => ih'.1 (h1.imp id fun h2 => h2.elim (fun h3 => by cases h3.1) id), fun h1 => ih'.2 fun h2 => h1 (h2.imp id .inr)⟩
    | true =>
      rw [if_pos rfl, copyR_get full q.2.2 q.2.1 _ hq r]
      by_cases hr : q.2.1 ≤ r ∧ r < q.2.1 + q.2.2
      · rw [if_pos hr]
        refine ⟨fun _ => ?_, fun h1 => absurd (.inr (.inl ⟨rfl, hr⟩)) h1⟩
        cases hf : full.get r with
        | some o => rfl
        | none =>
          by_cases h2 : r < lo ∨ rgOk D rg r
          · exact (ih'.1 h2).trans hf
          · exact ih'.2 h2
      · rw [if_neg hr]
        refine ⟨fun h1 => ih'.1 (h1.imp id fun h2 => h2.elim (fun h3 => absurd h3.2 hr) id), fun h1 => ih'.2 fun h2 => h1 (h2.imp id .inr)⟩
open Classical in
theorem backR_get {full ht : Tr RO} {lo D : Nat} {base : Tr RO} : ∀ {rg : List (Nat × Nat × Nat)}, (∀ q ∈ rg, q.2.1 + q.2.2 ≤ BIG) → ∀ r, (List.rec (motive := fun _ => Tr RO) base (fun q _ ih => Bool.rec ih (copyR ht q.2.2 q.2.1 ih) (inM D q.1)) rg : Tr RO).get r = if rgOk D rg r then (match ht.get r with | some o => some o | none => base.get r) else base.get r := by
  intro rg
  induction rg with
  | nil => intro _ r; rw [if_neg]; rintro ⟨q, hq, _⟩; cases hq
  | cons q rg ih =>
    intro hb r
    have ih' := ih (fun q' hq' => hb q' (List.mem_cons_of_mem _ hq')) r
    have hq := hb q List.mem_cons_self
    generalize hT : (List.rec (motive := fun _ => Tr RO) base (fun q _ ih => Bool.rec ih (copyR ht q.2.2 q.2.1 ih) (inM D q.1)) rg : Tr RO) = T at ih'
    have h : (List.rec (motive := fun _ => Tr RO) base (fun q _ ih => Bool.rec ih (copyR ht q.2.2 q.2.1 ih) (inM D q.1)) (q :: rg) : Tr RO).get r = if inM D q.1 = true then (copyR ht q.2.2 q.2.1 T).get r else T.get r := by
      rw [← hT]
      show (Bool.rec (motive := fun _ => Tr RO) _ _ (inM D q.1)).get r = _
      cases inM D q.1 <;> rfl
    have hsub : (rgOk D (q :: rg) r ↔ ((inM D q.1 = true ∧ q.2.1 ≤ r ∧ r < q.2.1 + q.2.2) ∨ rgOk D rg r)) := by
      constructor
      · rintro ⟨q', hq', h1⟩
        rcases List.mem_cons.1 hq' with rfl | hq'
        · exact .inl h1
        · exact .inr ⟨q', hq', h1⟩
      · rintro (h1 | ⟨q', hq', h1⟩)
        · exact ⟨q, List.mem_cons_self, h1⟩
        · exact ⟨q', List.mem_cons_of_mem _ hq', h1⟩
    rw [h]
    cases hd : inM D q.1 with
    | false =>
      rw [if_neg (by simp), ih']
      by_cases h2 : rgOk D rg r
      · rw [if_pos h2, if_pos (hsub.2 (.inr h2))]
      · rw [if_neg h2, if_neg fun h3 => (hsub.1 h3).elim (fun h4 => by rw [hd] at h4; cases h4.1) h2]
    | true =>
      rw [if_pos rfl, copyR_get ht q.2.2 q.2.1 _ hq r, ih']
      by_cases hr : q.2.1 ≤ r ∧ r < q.2.1 + q.2.2
      · rw [if_pos hr, if_pos (hsub.2 (.inl ⟨hd, hr⟩))]
        cases ht.get r with
        | some o => rfl
        | none => by_cases h2 : rgOk D rg r <;> simp [h2]
      · rw [if_neg hr]
        by_cases h2 : rgOk D rg r
        · rw [if_pos h2, if_pos (hsub.2 (.inr h2))]
        · rw [if_neg h2, if_neg fun h3 => (hsub.1 h3).elim (fun h4 => hr h4.2) h2]
open Classical in
theorem back_spec {st : Dr} {lo D : Nat} {h : Hp} (hlo : lo ≤ st.next) (hn : st.next ≤ h.next) (hb : h.next ≤ BIG) (hrg : ∀ q ∈ st.rg, q.2.1 + q.2.2 ≤ st.next) (ht2 : ∀ r o, st.full.get r = some o → r < st.next) (hpres : ∀ r o, (visT lo st D).get r = some o → ∃ o', h.tr.get r = some o') (hnew : ∀ r o, h.tr.get r = some o → r < h.next) :
    ∃ c : Nat → Prop, (∀ r, (c r → (visT lo st D).get r = st.full.get r) ∧ (¬ c r → (visT lo st D).get r = none)) ∧ (∀ r, ((c r ∨ (st.next ≤ r ∧ r < h.next)) → (backT lo st D h).get r = h.tr.get r) ∧ (¬ (c r ∨ (st.next ≤ r ∧ r < h.next)) → (backT lo st D h).get r = st.full.get r)) ∧ ((∀ r, c r → r < lo ∨ rgOk D st.rg r) ∨ Nat.land st.am D = st.am) := by
  cases hf : Nat.beq (Nat.land st.am D) st.am with
  | true =>
    have hv : visT lo st D = st.full := by unfold visT; rw [hf]
    have hbk : backT lo st D h = h.tr := by unfold backT; rw [hf]
    refine ⟨fun _ => True, fun r => ⟨fun _ => by rw [hv], fun h => absurd trivial h⟩, fun r => ⟨fun _ => by rw [hbk], fun h => absurd (.inl trivial) h⟩, .inr (Nat.eq_of_beq_eq_true hf)⟩
  | false =>
    have hv : visT lo st D = visR st.full lo D st.rg := by unfold visT; rw [hf]
    have hvr := fun r => visR_get (full := st.full) (lo := lo) (D := D) (by omega) (rg := st.rg) (fun q hq => by have := hrg q hq; omega) r
    rw [hv] at hpres
    refine ⟨fun r => r < lo ∨ rgOk D st.rg r, fun r => by rw [hv]; exact hvr r, fun r => ?_, .inl fun r h => h⟩
    have h1 : (backT lo st D h).get r = if rgOk D st.rg r then (match h.tr.get r with | some o => some o | none => (copyR h.tr (Nat.sub h.next st.next) st.next (copyR h.tr lo 0 st.full)).get r) else (copyR h.tr (Nat.sub h.next st.next) st.next (copyR h.tr lo 0 st.full)).get r := by
      have e : backT lo st D h = (List.rec (motive := fun _ => Tr RO) (copyR h.tr (Nat.sub h.next st.next) st.next (copyR h.tr lo 0 st.full)) (fun q _ ih => Bool.rec ih (copyR h.tr q.2.2 q.2.1 ih) (inM D q.1)) st.rg : Tr RO) := by unfold backT; rw [hf]
      rw [e]
      exact backR_get (full := st.full) (lo := lo) (fun q hq => by have := hrg q hq; omega) r
    have h2 : (copyR h.tr (Nat.sub h.next st.next) st.next (copyR h.tr lo 0 st.full)).get r = if st.next ≤ r ∧ r < h.next then (match h.tr.get r with | some o => some o | none => (copyR h.tr lo 0 st.full).get r) else (copyR h.tr lo 0 st.full).get r := by
      have e : st.next + Nat.sub h.next st.next = h.next := Nat.add_sub_cancel' hn
      have := copyR_get h.tr (Nat.sub h.next st.next) st.next (copyR h.tr lo 0 st.full) (by rw [e]; exact hb) r
      rwa [e] at this
    have h3 : (copyR h.tr lo 0 st.full).get r = if 0 ≤ r ∧ r < 0 + lo then (match h.tr.get r with | some o => some o | none => st.full.get r) else st.full.get r := copyR_get h.tr lo 0 st.full (by omega) r
    have hno : (r < lo ∨ rgOk D st.rg r ∨ (st.next ≤ r ∧ r < h.next)) → h.tr.get r = none → st.full.get r = none := by
      intro hc hnn
      cases hfr : st.full.get r with
      | none => rfl
      | some o =>
        have hlt := ht2 r o hfr
        have hc' : r < lo ∨ rgOk D st.rg r := by rcases hc with h | h | h; exact .inl h; exact .inr h; omega
        obtain ⟨o', ho'⟩ := hpres r o (by rw [(hvr r).1 hc', hfr])
        rw [hnn] at ho'; cases ho'
    constructor
    · intro hc
      cases hh : h.tr.get r with
      | some o =>
        rw [hh] at h1 h2 h3
        rw [h1]
        by_cases k1 : rgOk D st.rg r
        · rw [if_pos k1]
        · rw [if_neg k1, h2]
          by_cases k2 : st.next ≤ r ∧ r < h.next
          · rw [if_pos k2]
          · rw [if_neg k2, h3, if_pos]
            rcases hc with (h | h) | h
            · omega
            · exact absurd h k1
            · exact absurd h k2
      | none =>
        have hz := hno (hc.elim (fun h => h.elim .inl fun h => .inr (.inl h)) fun h => .inr (.inr h)) hh
        rw [hh] at h1 h2 h3
        simp only [hz, ite_self] at h3
        simp only [h3, ite_self] at h2
        simp only [h2, ite_self] at h1
        exact h1
    · intro hc
      have k1 : ¬ rgOk D st.rg r := fun h => hc (.inl (.inr h))
      have k2 : ¬ (st.next ≤ r ∧ r < h.next) := fun h => hc (.inr h)
      have k3 : ¬ r < lo := fun h => hc (.inl (.inl h))
      rw [h1, if_neg k1, h2, if_neg k2, h3, if_neg (by omega)]
theorem mayW_ok {lo : Nat} {ro : List Nat} {r : Nat} : mayW lo ro r = true ↔ lo ≤ r ∧ memN r ro = false := by
  show (Bool.rec false (Bool.rec true false (memN r ro)) (Nat.ble lo r) : Bool) = true ↔ _
  cases h1 : Nat.ble lo r with
  | false => exact ⟨fun h => (by cases h), fun h => (by rw [ble_t h.1] at h1; cases h1)⟩
  | true =>
    have := Nat.le_of_ble_eq_true h1
    cases h2 : memN r ro with
    | false => exact ⟨fun _ => ⟨this, rfl⟩, fun _ => rfl⟩
    | true => exact ⟨fun h => (by cases h), fun h => (by cases h.2)⟩
theorem memN_iff {r : Nat} : ∀ {l : List Nat}, memN r l = true ↔ r ∈ l := by
  intro l
  induction l with
  | nil => exact ⟨fun h => (by cases h), fun h => (by cases h)⟩
  | cons x l ih =>
    show (Bool.rec (memN r l) true (Nat.beq r x) : Bool) = true ↔ _
    cases h : Nat.beq r x with
    | true => have := Nat.eq_of_beq_eq_true h; subst this; exact ⟨fun _ => List.mem_cons_self, fun _ => rfl⟩
    | false =>
      have := Nat.ne_of_beq_eq_false h
      rw [List.mem_cons]
      exact ⟨fun h => .inr (ih.1 h), fun h => h.elim (fun h => absurd h this) ih.2⟩
theorem mem_shut {D : Nat} {ro : List Nat} {r : Nat} : ∀ {se : List (Nat × List Nat)}, r ∈ shut D ro se ↔ r ∈ ro ∨ ∃ q ∈ se, inM D q.1 = false ∧ r ∈ q.2 := by
  intro se
  induction se with
  | nil => exact ⟨.inl, fun h => h.elim id fun ⟨q, hq, _⟩ => by cases hq⟩
  | cons q se ih =>
    have h : shut D ro (q :: se) = Bool.rec (motive := fun _ => List Nat) (q.2 ++ shut D ro se) (shut D ro se) (inM D q.1) := rfl
    rw [h]
    cases hd : inM D q.1 with
    | true =>
      show r ∈ shut D ro se ↔ _
      rw [ih]
      refine ⟨fun h => h.imp id fun ⟨q', h1, h2⟩ => ⟨q', List.mem_cons_of_mem _ h1, h2⟩, fun h => h.imp id fun ⟨q', h1, h2⟩ => ?_⟩
      rcases List.mem_cons.1 h1 with rfl | h1
      · rw [hd] at h2; cases h2.1
      · exact ⟨q', h1, h2⟩
    | false =>
      show r ∈ q.2 ++ shut D ro se ↔ _
      rw [List.mem_append, ih]
      constructor
      · rintro (h | h | ⟨q', h1, h2⟩)
        · exact .inr ⟨q, List.mem_cons_self, hd, h⟩
        · exact .inl h
        · exact .inr ⟨q', List.mem_cons_of_mem _ h1, h2⟩
      · rintro (h | ⟨q', h1, h2⟩)
        · exact .inr (.inl h)
        · rcases List.mem_cons.1 h1 with rfl | h1
          · exact .inl h2.2
          · exact .inr (.inr ⟨q', h1, h2⟩)
theorem shut_W {lo D : Nat} {ro : List Nat} {se : List (Nat × List Nat)} {r : Nat} (h : mayW lo (shut D ro se) r = true) : mayW lo ro r = true := by
  obtain ⟨h1, h2⟩ := mayW_ok.1 h
  refine mayW_ok.2 ⟨h1, ?_⟩
  cases hm : memN r ro with
  | false => rfl
  | true =>
    have := memN_iff.2 (mem_shut.2 (.inl (memN_iff.1 hm)) : r ∈ shut D ro se)
    rw [h2] at this; cases this
end Go.Proofs.YtpehnaffepfabaaGreatDoor.Rx
namespace Go.Proofs.YtpehnaffepfabaaGreatDoor.Rx
open Go Go.RowKit
section
variable {call : FuncId → RV → Hp → Rs} {P : Program} {ops : Array Oper} {h0 : Hp} {m N : Nat} {ord : List Nat} {E : Nat → Env} {S : Nat → Dr}
variable {ρ0 : Nm} {w0 : World} {a0 : Act} {L : Nat → Bool} {a : Act} {w : World} {Q : Exit → Act → World → Prop}
theorem Trc.big (T : Trc call P ops h0 ord E S) (h0b : h0.next ≤ BIG) : ∀ p, p ≤ ord.length → (S p).next ≤ BIG := by
  intro p
  induction p with
  | zero => intro _; rw [T.z]; exact h0b
  | succ p ih =>
    intro hp
    obtain ⟨i, _, hs⟩ := T.at_ (show p < ord.length by omega)
    have h := ih (by omega)
    generalize S (p + 1) = s1 at hs ⊢
    generalize E (p + 1) = e1 at hs
    cases hs with
    | skip => exact h
    | v => exact h
    | nw o x ro ho hg hA ha hr hb => exact hb
    | st => exact h
    | e o f args v h1 ho hg hA ha hc hn hb => exact hb
open Classical in
noncomputable def gN (h0 : Hp) (ord : List Nat) (S : Nat → Dr) (L : Nat → Bool) (p : Nat) : Get := fun r => if vis h0 ord S L r then (S p).full.get r else none
theorem PA.go (A : PA call P ops h0 m N ord E S ρ0 w0 a0 L a w) (G : Geo ops m ord N) (T : Trc call P ops h0 ord E S) {p i : Nat} {o : Oper} (hp : ord[p]? = some i) (hi : i < m) (ho : ops[i]? = some o) (hn : L i = false) (haft : ∀ e ∈ o.after, Region.binds .any e = true → L e.on = true) (hact : actAt ops i = true) (hps : p = ps ops ord L)
    {ρ ρ' : Nm} (hV : ∀ (p k : Nat) (o : Oper) (d : Nat), ord[p]? = some k → ops[k]? = some o → L k = true → o.dst = some d → Rl ρ (lk d (E (p + 1))) (a.tmps.getD d undef)) (hu : Up ρ ρ') {x : RV} {v : Value} {w' : World} (hE : E (p + 1) = putD (E p) o.dst x) (hx : Rl ρ' x v)
    (ht2 : ∀ r ob, (S (p + 1)).full.get r = some ob → r < (S (p + 1)).next)
    (hprot : ∀ (q k : Nat) (ok : Oper), q < p → ord[q]? = some k → L k = false → ops[k]? = some ok → guardR ops.toList (E q) ok.guard = some true → ∀ r ∈ lookers (evR (E q)) ok.op, r < (S q).next → (S (p + 1)).full.get r = (S p).full.get r)
    (hprot8 : ∀ q k : Nat, q < p → ord[q]? = some k → L k = false → ∀ r, (S q).next ≤ r → r < (S (q + 1)).next → (S (p + 1)).full.get r = (S p).full.get r)
    (hT : To (WH h0) ρ0 h0.tr.get h0.names w0 ρ' (gN h0 ord S (upL L i) (p + 1)) (vis h0 ord S (upL L i)) w') : PA call P ops h0 m N ord E S ρ0 w0 a0 (upL L i) (a.put o.dst v) w' := by
  have hpl : p < ord.length := (List.getElem?_eq_some_iff.1 hp).1
  have hD' := A.down' ho haft
  have hge : p + 1 ≤ ps ops ord (upL L i) := by
    rcases Nat.lt_or_ge p (ps ops ord (upL L i)) with h | h
    · exact h
    · obtain ⟨c, hc, hac, hnc⟩ := ps_at (ops := ops) (L := upL L i) (show ps ops ord (upL L i) < ord.length by omega)
      rcases Nat.lt_or_eq_of_le h with h1 | h1
      · have := ps_lt (ops := ops) (L := L) (show ps ops ord (upL L i) < ps ops ord L by omega) hc hac
        rw [upL_of this] at hnc; cases hnc
      · rw [h1, hp] at hc
        obtain rfl := Option.some.inj hc
        rw [upL_self] at hnc; cases hnc
  have hcalm : ∀ k j, p + 1 ≤ k → k < ps ops ord (upL L i) → ord[k]? = some j → actAt ops j = false := by
    intro k j hk hkp hj
    cases ha : actAt ops j with
    | false => rfl
    | true =>
      have h1 := ps_lt hkp hj ha
      have hji : j ≠ i := by
        rintro rfl
        have := G.uniq k p _ hj hp; omega
      rw [upL_ne hji] at h1
      obtain ⟨oj, hoj⟩ : ∃ oj, ops[j]? = some oj := by
        unfold actAt at ha
        cases hoj : ops[j]? with
        | none => rw [hoj] at ha; cases ha
        | some oj => exact ⟨oj, rfl⟩
      have := pos_lt G A.down hoj h1 hj
      omega
  obtain ⟨hseg, hseg2⟩ := T.seg _ (p + 1) hge (ps_le _) hcalm
  have hmono := T.mono _ (p + 1) hge (ps_le _)
  have hvlt : ∀ r, vis h0 ord S (upL L i) r → r < (S (p + 1)).next := by
    intro r hr
    rcases (vis_upL G hp).1 hr with h | h
    · have := vis_lt G T A.down h
      rw [← hps] at this
      have := T.mono (p + 1) p (by omega) (by omega)
      omega
    · exact h.2
  have hgl : gL ops h0 ord S (upL L i) = gN h0 ord S (upL L i) (p + 1) := by
    funext r
    unfold gL gN
    by_cases hr : vis h0 ord S (upL L i) r
    · rw [if_pos hr, if_pos hr]; exact hseg r (hvlt r hr)
    · rw [if_neg hr, if_neg hr]
  have hLk : ∀ {k : Nat}, upL L i k = false → L k = false := fun {k} hk => by
    cases h : L k with
    | false => rfl
    | true => rw [upL_of h] at hk; cases hk
  refine ⟨fun k hk => ?_, hD', size_put' A.size, defers_put' A.defers, A.outer' ho, fun r ob hr => ?_, ?_, ?_, ρ', by rw [hgl]; exact hT, A.put G T hu hV hp ho hE hx⟩
  · by_cases hki : k = i
    · rw [hki]; exact hi
    · rw [upL_ne hki] at hk; exact A.sub k hk
  · rcases hseg2 r ob hr with h | h
    · exact Nat.lt_of_lt_of_le (ht2 r ob h) hmono
    · exact h
  · intro q k ok hq hqk hk hok hg r hr hrl
    rcases Nat.lt_trichotomy q p with h | h | h
    · have h1 : r < (S (p + 1)).next := Nat.lt_of_lt_of_le hrl (T.mono (p + 1) q (by omega) (by omega))
      rw [hseg r h1, hprot q k ok h hqk (hLk hk) hok hg r hr hrl, hps]
      exact A.t7 q k ok (by omega) hqk (hLk hk) hok hg r hr hrl
    · subst h
      rw [hp] at hqk
      obtain rfl := Option.some.inj hqk
      rw [upL_self] at hk; cases hk
    · exact (T.seg _ q (by omega) (ps_le _) fun k' j hk' hkp hj => hcalm k' j (by omega) hkp hj).1 r hrl
  · intro q k hq hqk hk r h1 h2
    rcases Nat.lt_trichotomy q p with h | h | h
    · have h3 : r < (S (p + 1)).next := Nat.lt_of_lt_of_le h2 (T.mono (p + 1) (q + 1) (by omega) (by omega))
      rw [hseg r h3, hprot8 q k h hqk (hLk hk) r h1 h2, hps]
      exact A.t8 q k (by omega) hqk (hLk hk) r h1 h2
    · subst h
      rw [hp] at hqk
      obtain rfl := Option.some.inj hqk
      rw [upL_self] at hk; cases hk
    · exact (T.seg _ (q + 1) (by omega) (ps_le _) fun k' j hk' hkp hj => hcalm k' j (by omega) hkp hj).1 r h2
theorem PA.acts (hC : CallOk P call) (A : PA call P ops h0 m N ord E S ρ0 w0 a0 L a w) (G : Geo ops m ord N) (T : Trc call P ops h0 ord E S) (hK0 : KR ρ0 N (E 0) a0) (hH0 : HR ρ0 h0.tr.get h0.names w0) (h0b : h0.next ≤ BIG) {i : Nat} {o : Oper} (hi : i < m) (ho : ops[i]? = some o) (hn : L i = false) (haft : ∀ e ∈ o.after, Region.binds .any e = true → L e.on = true) (ha : isAct o = true) {K : Act → World → Prop} (hK : ∀ v w', PA call P ops h0 m N ord E S ρ0 w0 a0 (upL L i) (a.put o.dst v) w' → K (a.put o.dst v) w') : if Region.wanted o (yielded ops a.tmps) = true then o.wp P a w K Q else K (a.put o.dst undef) w := by
  obtain ⟨p, hp⟩ := G.mem i hi
  have hpl : p < ord.length := (List.getElem?_eq_some_iff.1 hp).1
  have hat : actAt ops i = true := by unfold actAt; rw [ho]; exact ha
  have hdep : ∀ j, dep ops i j = true → L j = true := fun j h => dep_ready G A.down ho haft h
  have hps : p = ps ops ord L := by
    rcases Nat.lt_trichotomy p (ps ops ord L) with h | h | h
    · have := ps_lt h hp hat; rw [hn] at this; cases this
    · exact h
    · obtain ⟨c, hc, hac, hnc⟩ := ps_at (ops := ops) (L := L) (show ps ops ord L < ord.length by omega)
      cases hoc : ops[c]? with
      | none => unfold actAt at hac; rw [hoc] at hac; cases hac
      | some oc =>
        have ha' : isAct oc = true := by unfold actAt at hac; rw [hoc] at hac; exact hac
        have := hdep c (G.act _ p c i oc h hc hp hoc ha')
        rw [hnc] at this; cases this
  obtain ⟨ρ, hT, hV⟩ := A.ex
  obtain ⟨hop, hgd⟩ := A.opd G T hK0 hH0 hT hV hp ho hn hdep
  have hst := T.st p i hp
  have hvlt : ∀ r, vis h0 ord S L r → r < (S p).next := fun r hr => by have := vis_lt G T A.down hr; rwa [← hps] at this
  have hgLp : ∀ r, gL ops h0 ord S L r = gN h0 ord S L p r := fun r => by unfold gL gN; rw [← hps]
  have ht2p : ∀ r ob, (S p).full.get r = some ob → r < (S p).next := by rw [hps]; exact A.t2
  have hfr : ¬ vis h0 ord S L (S p).next := fun h => Nat.lt_irrefl _ (hvlt _ h)
  have hgo := fun {ρ' : Nm} {x : RV} {v : Value} {w' : World} => A.go (ρ' := ρ') (x := x) (v := v) (w' := w') G T hp hi ho hn haft hat hps hV
  have hlook : ∀ (q k : Nat) (ok : Oper), q < p → ord[q]? = some k → L k = false → ops[k]? = some ok → guardR ops.toList (E q) ok.guard = some true → ∀ r ∈ lookers (evR (E q)) ok.op, r ∈ shut ((masks ops.toList []).getD i 0) h0.ro (S p).se := by
    intro q k ok hq hqk hk hok hg r hr
    have hak : isAct ok = false := by
      cases h : isAct ok with
      | false => rfl
      | true =>
        have := ps_lt (ops := ops) (L := L) (show q < ps ops ord L by omega) hqk (by unfold actAt; rw [hok]; exact h)
        rw [hk] at this; cases this
    rcases T.se hqk hok hak hg p hq (by omega) with h | h
    · rw [h] at hr; cases hr
    · refine mem_shut.2 (.inr ⟨_, h, ?_, hr⟩)
      cases hd : inM ((masks ops.toList []).getD i 0) k with
      | false => rfl
      | true => have := hdep k hd; rw [hk] at this; cases this
  have hsee : ∀ {ρ : Nm}, HR ρ (gL ops h0 ord S L) (vis h0 ord S L) w → (∀ x ∈ o.op.operands.toList, Rl ρ (evR (E p) x) (a.eval x)) → ∀ r ∈ lookers (evR (E p)) o.op, gL ops h0 ord S L r = (S p).full.get r := by
    intro ρ hH hop r hrm
    obtain ⟨x, hx, hrx⟩ := List.mem_flatMap.1 hrm
    obtain ⟨q, hq⟩ := rowOf_name (hop x hx) hrx
    rw [gL_vis (hH.new r q hq), ← hps]
  generalize hE1 : E (p + 1) = env1 at hst
  generalize hS1 : S (p + 1) = st1 at hst
  have hvis : ∀ r, vis h0 ord S (upL L i) r ↔ vis h0 ord S L r ∨ ((S p).next ≤ r ∧ r < (S (p + 1)).next) := fun r => vis_upL G hp
  have hvs : (S (p + 1)).next = (S p).next → vis h0 ord S (upL L i) = vis h0 ord S L := fun he => funext fun r => propext (by
    rw [hvis, he]; exact ⟨fun h => h.elim id fun h => by omega, .inl⟩)
  cases hst with
  | skip o' ho' hg =>
    rw [ho] at ho'
    obtain rfl := Option.some.inj ho'
    have hw := guard_of hgd hg
    rw [if_neg (by rw [hw]; decide)]
    refine hK undef w (hgo (Up.refl ρ) hE1 rfl (by rw [hS1]; exact ht2p) (fun _ _ _ _ _ _ _ _ r _ _ => by rw [hS1]) (fun _ _ _ _ _ r _ _ => by rw [hS1]) ?_)
    have e1 := hvs (by rw [hS1])
    have e2 : gN h0 ord S (upL L i) (p + 1) = gL ops h0 ord S L := funext fun r => by rw [hgLp]; unfold gN; rw [e1, hS1]
    rw [e1, e2]; exact hT
  | v o' x ho' hg hA ha' => rw [ho] at ho'; obtain rfl := Option.some.inj ho'; rw [ha] at ha'; cases ha'
  | nw o' x ro ho' hg hA ha' => rw [ho] at ho'; obtain rfl := Option.some.inj ho'; rw [ha] at ha'; cases ha'
  | st o' r0 ro ho' hg hA _ hw hrn hrb =>
    rw [ho] at ho'
    obtain rfl := Option.some.inj ho'
    have hwt := guard_of hgd hg
    rw [if_pos hwt]
    rw [← op_congr (P := P) (nx := (S p).next) (hsee hT.hr hop)] at hA
    have hS := op_ok (W := WH h0) (P := P) (o := o) (σ := evR (E p)) (τ := a.eval) (nx := (S p).next) hT.hr hfr hop
    rw [hA] at hS
    obtain ⟨w', h1, h2, _⟩ := hS (shut_W hw)
    unfold Oper.wp
    rw [h1]
    have hfull : (S (p + 1)).full = (S p).full.put 30 r0 ro := by rw [hS1]; rfl
    have hnext : (S (p + 1)).next = (S p).next := by rw [hS1]; rfl
    have hrvis : vis h0 ord S L r0 := by
      obtain ⟨q, hq, _⟩ := h2.hr.at_ r0 ro (upd_same _ _ _)
      exact h2.hr.new r0 q hq
    have hnotin : memN r0 (shut ((masks ops.toList []).getD i 0) h0.ro (S p).se) = false := (mayW_ok.1 hw).2
    refine hK undef w' (hgo (h2.up hT.hr) hE1 rfl ?_ ?_ ?_ ?_)
    · intro r ob hr
      rw [hfull] at hr
      rw [hnext]
      by_cases hrr : r = r0
      · subst hrr; exact hrn
      · rw [get_ne hrb hrr] at hr; exact ht2p r ob hr
    · intro q k ok hq hqk hk hok hgk r hr _
      rw [hfull]
      refine get_ne hrb ?_
      rintro rfl
      have := memN_iff.2 (hlook q k ok hq hqk hk hok hgk r hr)
      rw [hnotin] at this; cases this
    · intro q k hq hqk hk r h3 h4
      rw [hfull]
      refine get_ne hrb ?_
      rintro rfl
      rcases hrvis with h | ⟨q2, k2, hq2, hk2, h5⟩
      · have := T.lo (show q ≤ ord.length by omega); omega
      · have := T.tile1 (show q < ord.length by omega) (List.getElem?_eq_some_iff.1 hq2).1 ⟨h3, h4⟩ h5
        subst this
        rw [hqk] at hq2
        obtain rfl := Option.some.inj hq2
        rw [hk] at hk2; cases hk2
    · have e1 := hvs hnext
      have e2 : gN h0 ord S (upL L i) (p + 1) = upd (gL ops h0 ord S L) r0 ro := by
        funext r
        by_cases hrr : r = r0
        · subst hrr
          rw [upd_same]
          unfold gN
          rw [e1, if_pos hrvis, hfull, get_same hrb]
        · rw [upd_ne hrr, hgLp]
          unfold gN
          rw [e1, hfull, get_ne hrb hrr]
      rw [e1, e2]
      exact hT.trans h2
  | e o' f args v h ho' hg hA _ hc hnx hhb =>
    rw [ho] at ho'
    obtain rfl := Option.some.inj ho'
    have hwt := guard_of hgd hg
    rw [if_pos hwt]
    rw [← op_congr (P := P) (nx := (S p).next) (hsee hT.hr hop)] at hA
    have hS := op_ok (W := WH h0) (P := P) (o := o) (σ := evR (E p)) (τ := a.eval) (nx := (S p).next) hT.hr hfr hop
    rw [hA] at hS
    obtain ⟨vs, h1, h2⟩ := hS
    unfold Oper.wp
    rw [h1]
    have hfull : (S (p + 1)).full = backT h0.next (S p) ((masks ops.toList []).getD i 0) h := by rw [hS1]; rfl
    have hnext : (S (p + 1)).next = h.next := by rw [hS1]; rfl
    have hlo : h0.next ≤ (S p).next := T.lo (by omega)
    have hrg : ∀ q ∈ (S p).rg, ∃ p', p' < p ∧ ord[p']? = some q.1 ∧ q.2.1 = (S p').next ∧ q.2.1 + q.2.2 = (S (p' + 1)).next := T.rg p (by omega)
    have hrgb : ∀ q ∈ (S p).rg, q.2.1 + q.2.2 ≤ (S p).next := fun q hq => by
      obtain ⟨p', h3, _, _, h4⟩ := hrg q hq
      rw [h4]; exact T.mono p (p' + 1) h3 (by omega)
    have hbigp : (S p).next ≤ BIG := T.big h0b p (by omega)
    have hvisD : ∀ r ob, (S p).full.get r = some ob → (r < h0.next ∨ rgOk ((masks ops.toList []).getD i 0) (S p).rg r) ∨ Nat.land (S p).am ((masks ops.toList []).getD i 0) = (S p).am → vis h0 ord S L r := by
      intro r ob hr hc
      rcases hc with (hc | ⟨q, hq, hd, hq1, hq2⟩) | hc
      · exact .inl hc
      · obtain ⟨p', h3, h4, h5, h6⟩ := hrg q hq
        exact .inr ⟨p', q.1, h4, hdep q.1 hd, by omega, by omega⟩
      · rcases Nat.lt_or_ge r h0.next with h3 | h3
        · exact .inl h3
        · obtain ⟨q, h4, h5, h6⟩ := T.tile h3 p (by omega) (ht2p r ob hr)
          obtain ⟨k, hk, _⟩ := T.at_ (show q < ord.length by omega)
          have h7 := T.am hk (by omega) p h4 (by omega)
          rw [← hc, inM_land, Bool.and_eq_true] at h7
          exact .inr ⟨q, k, hk, hdep k h7.2, h5, h6⟩
    have hcell : ∀ r ob, (visT h0.next (S p) ((masks ops.toList []).getD i 0)).get r = some ob → (S p).full.get r = some ob ∧ ((r < h0.next ∨ rgOk ((masks ops.toList []).getD i 0) (S p).rg r) ∨ Nat.land (S p).am ((masks ops.toList []).getD i 0) = (S p).am) := by
      intro r ob hr
      cases hf : Nat.beq (Nat.land (S p).am ((masks ops.toList []).getD i 0)) (S p).am with
      | true =>
        have hv : visT h0.next (S p) ((masks ops.toList []).getD i 0) = (S p).full := by unfold visT; rw [hf]
        rw [hv] at hr
        exact ⟨hr, .inr (Nat.eq_of_beq_eq_true hf)⟩
      | false =>
        have hv : visT h0.next (S p) ((masks ops.toList []).getD i 0) = visR (S p).full h0.next ((masks ops.toList []).getD i 0) (S p).rg := by unfold visT; rw [hf]
        rw [hv] at hr
        have hvr := visR_get (full := (S p).full) (lo := h0.next) (D := (masks ops.toList []).getD i 0) (by omega) (rg := (S p).rg) (fun q hq => by have := hrgb q hq; omega) r
        by_cases hc : r < h0.next ∨ rgOk ((masks ops.toList []).getD i 0) (S p).rg r
        · rw [hvr.1 hc] at hr; exact ⟨hr, .inl hc⟩
        · rw [hvr.2 hc] at hr; cases hr
    have hsub : ∀ r ob, (visT h0.next (S p) ((masks ops.toList []).getD i 0)).get r = some ob → gL ops h0 ord S L r = some ob := by
      intro r ob hr
      obtain ⟨h3, h4⟩ := hcell r ob hr
      rw [gL_vis (hvisD r ob h3 h4), ← hps]; exact h3
    have hHv : HR ρ (visT h0.next (S p) ((masks ops.toList []).getD i 0)).get (visH h0 (S p) ((masks ops.toList []).getD i 0)).names w :=
      ⟨fun r ob hr => hT.hr.at_ r ob (hsub r ob hr), fun r q hq => hvlt r (hT.hr.new r q hq), fun r r' ob ob' q q' hr hr' => hT.hr.far r r' ob ob' q q' (hsub r ob hr) (hsub r' ob' hr'), hT.hr.glob, fun r hr => Nat.lt_of_lt_of_le hr hbigp⟩
    refine (hC f args _ v h hc ρ w vs h2 hHv).upon ?_
    rintro V w' ⟨ρ', hVr, hG, _, _⟩
    have hG' : To (WH (visH h0 (S p) ((masks ops.toList []).getD i 0))) ρ (visT h0.next (S p) ((masks ops.toList []).getD i 0)).get (fun r => r < (S p).next) w ρ' h.tr.get h.names w' := hG
    clear hG
    have hWsub : ∀ r, WH (visH h0 (S p) ((masks ops.toList []).getD i 0)) r → WH h0 r := fun r hr => shut_W hr
    have hup : Up ρ ρ' := hG'.up hHv
    obtain ⟨c, hc1, hc2, hc3⟩ := back_spec (st := S p) (lo := h0.next) (D := (masks ops.toList []).getD i 0) (h := h) hlo hnx hhb hrgb ht2p hG'.pres (fun r ob hr => hG'.hr.lt hr)
    rw [← hfull] at hc2
    have hcvis : ∀ r ob, c r → (S p).full.get r = some ob → gL ops h0 ord S L r = some ob := fun r ob hcr hr => hsub r ob (by rw [(hc1 r).1 hcr]; exact hr)
    have hkind : ∀ r ob, gN h0 ord S (upL L i) (p + 1) r = some ob → ((c r ∨ ((S p).next ≤ r ∧ r < h.next)) ∧ h.tr.get r = some ob) ∨ (¬ c r ∧ r < (S p).next ∧ gL ops h0 ord S L r = some ob) := by
      intro r ob hr
      unfold gN at hr
      split at hr
      · rename_i hv
        by_cases hcr : c r ∨ ((S p).next ≤ r ∧ r < h.next)
        · rw [(hc2 r).1 hcr] at hr; exact .inl ⟨hcr, hr⟩
        · rw [(hc2 r).2 hcr] at hr
          have hlt := ht2p r ob hr
          rcases (hvis r).1 hv with h3 | h3
          · exact .inr ⟨fun h4 => hcr (.inl h4), hlt, by rw [gL_vis h3, ← hps]; exact hr⟩
          · omega
      · cases hr
    have hstay : ∀ r ob q, ob.live → ¬ c r → gL ops h0 ord S L r = some ob → ρ r = some q → OR ρ w q ob → w'.heap[q.b]? = w.heap[q.b]? := by
      intro r ob q hl hcr hr hq hor
      refine hG'.fr q.b (hor.lt hl) ?_
      rintro ⟨r1, o1, q1, h3, h4, _, h5, h6⟩
      have hne : r1 ≠ r := by
        rintro rfl
        rw [(hc1 r1).2 hcr] at h3; cases h3
      exact hT.hr.far r1 r o1 ob q1 q (hsub r1 o1 h3) hr h4 hl h5 hq hne h6
    have hHN : To (WH h0) ρ (gL ops h0 ord S L) (vis h0 ord S L) w ρ' (gN h0 ord S (upL L i) (p + 1)) (vis h0 ord S (upL L i)) w' := by
      have hmix : ∀ r1 r2 o1 o2 q1 q2, (c r1 ∨ ((S p).next ≤ r1 ∧ r1 < h.next)) → h.tr.get r1 = some o1 → ¬ c r2 → r2 < (S p).next → gL ops h0 ord S L r2 = some o2 → o1.live → o2.live → ρ' r1 = some q1 → ρ' r2 = some q2 → q1.b ≠ q2.b := by
        intro r1 r2 o1 o2 q1 q2 hk1 hr1 hk2 hl2 hr2 l1 l2 hq1 hq2
        rw [hG'.ext r2 hl2] at hq2
        obtain ⟨q2', h3, h4⟩ := hT.hr.at_ r2 o2 hr2
        rw [hq2] at h3
        obtain rfl := Option.some.inj h3
        have hsee1 : ∀ r ob, (visT h0.next (S p) ((masks ops.toList []).getD i 0)).get r = some ob → r ≠ r2 := by
          rintro r ob hr rfl
          rw [(hc1 r).2 hk2] at hr; cases hr
        rcases hG'.own r1 o1 q1 hr1 l1 hq1 with ⟨h5, o0, h6, h7⟩ | ⟨r0, o0, q0, h5, h6, _, h7, h8⟩ | h5
        · exact hT.hr.far r1 r2 o0 o2 q1 q2 (hsub r1 o0 h6) hr2 h7 l2 h5 hq2 (hsee1 r1 o0 h6)
        · rw [← h8]; exact hT.hr.far r0 r2 o0 o2 q0 q2 (hsub r0 o0 h5) hr2 h6 l2 h7 hq2 (hsee1 r0 o0 h5)
        · have := h4.lt l2; omega
      refine ⟨fun r hr => hG'.ext r (hvlt r hr), fun r hr => (hvis r).2 (.inl hr), ⟨fun r ob hr => ?_, fun r q hq => ?_, fun r1 r2 o1 o2 q1 q2 hr1 hr2 l1 l2 hq1 hq2 hne => ?_, hG'.hr.glob, fun r hr => ?_⟩, fun k hk hnk => hG'.fr k hk fun hk' => hnk ?_, fun r ob q hr hl hq => ?_, fun r hr hv => ?_, fun r ob hr => ?_, hG'.os, hG'.tape, hG'.out, hG'.size⟩
      · rcases hkind r ob hr with ⟨_, h3⟩ | ⟨h3, h4, h5⟩
        · exact hG'.hr.at_ r ob h3
        · obtain ⟨q, h6, h7⟩ := hT.hr.at_ r ob h5
          exact ⟨q, by rw [hG'.ext r h4]; exact h6, h7.up hup fun hl => hstay r ob q hl h3 h5 h6 h7⟩
      · have hlt : r < h.next := hG'.hr.new r q hq
        rcases Nat.lt_or_ge r (S p).next with h3 | h3
        · rw [hG'.ext r h3] at hq; exact (hvis r).2 (.inl (hT.hr.new r q hq))
        · exact (hvis r).2 (.inr ⟨h3, by rw [hnext]; exact hlt⟩)
      · rcases hkind r1 o1 hr1 with ⟨k1, h3⟩ | ⟨k1, h3, h4⟩ <;> rcases hkind r2 o2 hr2 with ⟨k2, h5⟩ | ⟨k2, h5, h6⟩
        · exact hG'.hr.far r1 r2 o1 o2 q1 q2 h3 h5 l1 l2 hq1 hq2 hne
        · exact hmix r1 r2 o1 o2 q1 q2 k1 h3 k2 h5 h6 l1 l2 hq1 hq2
        · exact (hmix r2 r1 o2 o1 q2 q1 k2 h5 k1 h3 h4 l2 l1 hq2 hq1).symm
        · rw [hG'.ext r1 h3] at hq1
          rw [hG'.ext r2 h5] at hq2
          exact hT.hr.far r1 r2 o1 o2 q1 q2 h4 h6 l1 l2 hq1 hq2 hne
      · rcases (hvis r).1 hr with h3 | h3
        · exact hT.hr.big r h3
        · rw [hnext] at h3; omega
      · obtain ⟨r, ob, q, h3, h4, h5, h6⟩ := hk'
        exact ⟨r, ob, q, hsub r ob h3, h4, hWsub r h5, h6⟩
      · rcases hkind r ob hr with ⟨_, h3⟩ | ⟨h3, h4, h5⟩
        · rcases hG'.own r ob q h3 hl hq with ⟨h5, o0, h6, h7⟩ | ⟨r0, o0, q0, h5, h6, h6', h7, h8⟩ | h5
          · exact .inl ⟨h5, o0, hsub r o0 h6, h7⟩
          · exact .inr (.inl ⟨r0, o0, q0, hsub r0 o0 h5, h6, hWsub r0 h6', h7, h8⟩)
          · exact .inr (.inr h5)
        · rw [hG'.ext r h4] at hq
          exact .inl ⟨hq, ob, h5, hl⟩
      · have hlt := hvlt r hv
        have hv' := (hvis r).2 (.inl hv)
        unfold gN
        rw [if_pos hv', hgLp]
        unfold gN
        rw [if_pos hv]
        by_cases hcr : c r
        · rw [(hc2 r).1 (.inl hcr), hG'.keep r (fun h3 => hr (hWsub r h3)) hlt, (hc1 r).1 hcr]
        · rw [(hc2 r).2 fun h3 => h3.elim hcr fun h4 => by omega]
      · obtain ⟨h3, h4⟩ := gL_some hr
        rw [← hps] at h4
        have hlt := hvlt r h3
        unfold gN
        rw [if_pos ((hvis r).2 (.inl h3))]
        by_cases hcr : c r
        · obtain ⟨o', ho'⟩ := hG'.pres r ob (by rw [(hc1 r).1 hcr]; exact h4)
          exact ⟨o', by rw [(hc2 r).1 (.inl hcr)]; exact ho'⟩
        · exact ⟨ob, by rw [(hc2 r).2 fun h5 => h5.elim hcr fun h6 => by omega]; exact h4⟩
    refine hK V w' (hgo hup hE1 hVr ?_ ?_ ?_ (hT.trans hHN))
    · intro r ob hr
      rw [hnext]
      by_cases hcr : c r ∨ ((S p).next ≤ r ∧ r < h.next)
      · rw [(hc2 r).1 hcr] at hr; exact hG'.hr.lt hr
      · rw [(hc2 r).2 hcr] at hr; have := ht2p r ob hr; omega
    · intro q k ok hq hqk hk hok hgk r hr hrl
      have hlt : r < (S p).next := Nat.lt_of_lt_of_le hrl (T.mono p q (by omega) (by omega))
      by_cases hcr : c r
      · rw [(hc2 r).1 (.inl hcr), hG'.keep r (fun h3 => ?_) hlt, (hc1 r).1 hcr]
        have h5 := memN_iff.2 (hlook q k ok hq hqk hk hok hgk r hr)
        exact Bool.noConfusion (h5.symm.trans (mayW_ok.1 h3).2)
      · rw [(hc2 r).2 fun h3 => h3.elim hcr fun h4 => by omega]
    · intro q k hq hqk hk r h3 h4
      have hlt : r < (S p).next := Nat.lt_of_lt_of_le h4 (T.mono p (q + 1) (by omega) (by omega))
      by_cases hcr : c r
      · 
        cases hfr' : (S p).full.get r with
        | none =>
          rw [(hc2 r).1 (.inl hcr)]
          cases hh : h.tr.get r with
          | none => rfl
          | some ob =>
            exfalso
            obtain ⟨q1, h5, _⟩ := hG'.hr.at_ r ob hh
            rw [hG'.ext r hlt] at h5
            rcases hT.hr.new r q1 h5 with h6 | ⟨q2, k2, hq2, hk2, h7⟩
            · have := T.lo (show q ≤ ord.length by omega); omega
            · have := T.tile1 (show q < ord.length by omega) (List.getElem?_eq_some_iff.1 hq2).1 ⟨h3, h4⟩ h7
              subst this
              rw [hqk] at hq2
              obtain rfl := Option.some.inj hq2
              rw [hk] at hk2; cases hk2
        | some ob =>
          exfalso
          have h5 := gL_some (hcvis r ob hcr hfr')
          rcases h5.1 with h6 | ⟨q2, k2, hq2, hk2, h7⟩
          · have := T.lo (show q ≤ ord.length by omega); omega
          · have := T.tile1 (show q < ord.length by omega) (List.getElem?_eq_some_iff.1 hq2).1 ⟨h3, h4⟩ h7
            subst this
            rw [hqk] at hq2
            obtain rfl := Option.some.inj hq2
            rw [hk] at hk2; cases hk2
      · rw [(hc2 r).2 fun h5 => h5.elim hcr fun h6 => by omega]
end
end Go.Proofs.YtpehnaffepfabaaGreatDoor.Rx
namespace Go.Proofs.YtpehnaffepfabaaGreatDoor.Rx
open Go Go.RowKit
theorem masks_get : ∀ (l : List Oper) (D0 : List Nat), ∃ R : List Nat, masks l D0 = D0 ++ R ∧ ∀ (i : Nat) (o : Oper), l[i]? = some o → R[i]? = some (maskL (D0 ++ R.take i) o.after.toList) := by
  intro l
  induction l with
  | nil => intro D0; exact ⟨[], (List.append_nil _).symm, fun i o h => by simp at h⟩
  | cons o l ih =>
    intro D0
    obtain ⟨R, h1, h2⟩ := ih (D0 ++ [maskL D0 o.after.toList])
    refine ⟨maskL D0 o.after.toList :: R, by show masks l _ = _; rw [h1, List.append_assoc]; rfl, fun i o' h => ?_⟩
    cases i with
    | zero =>
      obtain rfl := Option.some.inj (show some o = some o' from h)
      simp
    | succ i =>
      have := h2 i o' (by simpa using h)
      simpa using this
theorem inM_zero (j : Nat) : inM 0 j = false := by
  unfold inM
  show Nat.beq ((0 >>> j) &&& 1) 1 = false
  rw [Nat.zero_shiftRight]; rfl
theorem maskL_in {D : List Nat} {j : Nat} : ∀ {es : List Edge}, inM (maskL D es) j = true → ∃ e ∈ es, Region.binds .any e = true ∧ (e.on = j ∨ inM (D.getD e.on 0) j = true) := by
  intro es
  induction es with
  | nil => intro h; rw [show maskL D [] = 0 from rfl, inM_zero] at h; cases h
  | cons e l ih =>
    intro h
    have later : inM (maskL D l) j = true → _ := fun h1 => (ih h1).imp fun e' h2 => And.intro (List.mem_cons_of_mem e h2.1) h2.2
    unfold maskL at h
    cases hb : Region.binds .any e with
    | false => rw [hb] at h; exact later h
    | true =>
      rw [hb] at h
      replace h : inM (Nat.lor (Nat.lor (Nat.shiftLeft 1 e.on) (D.getD e.on 0)) (maskL D l)) j = true := h
      rw [inM_lor, inM_lor, inM_bit, Bool.or_eq_true, Bool.or_eq_true] at h
      rcases h with (h | h) | h
      · exact ⟨e, List.mem_cons_self, hb, .inl (of_decide_eq_true h)⟩
      · exact ⟨e, List.mem_cons_self, hb, .inr h⟩
      · exact later h
theorem tailN_ok (D : List Nat) : ∀ n, tailN D n ≤ n ∧ ∀ i, tailN D n ≤ i → i < n → D.getD i 0 + 1 = Nat.shiftLeft 1 i := by
  intro n
  induction n with
  | zero => exact ⟨Nat.le_refl _, fun i _ h => by omega⟩
  | succ n ih =>
    unfold tailN
    cases hb : Nat.beq (D.getD n 0 + 1) (Nat.shiftLeft 1 n) with
    | false => exact ⟨Nat.le_refl _, fun i h1 h2 => by simp at h1; omega⟩
    | true =>
      refine ⟨Nat.le_succ_of_le ih.1, fun i h1 h2 => ?_⟩
      rcases Nat.lt_or_eq_of_le (Nat.le_of_lt_succ h2) with h3 | h3
      · exact ih.2 i h1 h3
      · subst h3; exact Nat.eq_of_beq_eq_true hb
theorem inM_full {x i j : Nat} (h : x + 1 = Nat.shiftLeft 1 i) (hj : j < i) : inM x j = true := by
  have key : ∀ m, inM m j = m.testBit j := fun m => by
    unfold inM Nat.testBit
    show Nat.beq ((m >>> j) &&& 1) 1 = (1 &&& (m >>> j) != 0)
    rw [Nat.and_comm 1 (m >>> j), Nat.and_one_is_mod]
    rcases Nat.mod_two_eq_zero_or_one (m >>> j) with h | h <;> rw [h] <;> rfl
  have hx : x = 2 ^ i - 1 := by
    have : Nat.shiftLeft 1 i = 2 ^ i := Nat.one_shiftLeft i
    omega
  rw [key, hx, Nat.testBit_two_pow_sub_one]
  simpa using hj
section
variable {ops : Array Oper} {N : Nat}
theorem all_range {n : Nat} {f : Nat → Bool} (h : (List.range n).all f = true) : ∀ i, i < n → f i = true := fun i hi => (List.all_eq_true.1 h) i (List.mem_range.2 hi)
theorem drawOk_at (h : drawOk N ops.toList = true) {i : Nat} {o : Oper} (ho : ops[i]? = some o) :
    (∀ e ∈ o.after, Region.binds .any e = true → e.on < i) ∧ (∀ d, o.dst = some d → d < N ∧ ∀ j, j < i → ∀ e, slotL ops.toList j = some e → e ≠ d) ∧ (∀ x ∈ o.op.operands.toList, opdOk ops.toList (masks ops.toList []) i x = true) ∧ ∀ g, o.guard = some g → dep ops i g.1 = true := by
  have hlt : i < ops.toList.length := by have := (Array.getElem?_eq_some_iff.1 ho).1; simpa using this
  have h1 := all_range h i hlt
  have ho' : ops.toList[i]? = some o := by rw [Array.getElem?_toList]; exact ho
  simp only [ho', Bool.and_eq_true] at h1
  obtain ⟨⟨⟨h1, h2⟩, h3⟩, h4⟩ := h1
  refine ⟨fun e he hb => ?_, fun d hd => ?_, fun x hx => List.all_eq_true.1 h3 x hx, fun g hg => ?_⟩
  · have := List.all_eq_true.1 h1 e (by simpa using he)
    rw [hb] at this
    exact Nat.le_of_ble_eq_true this
  · rw [hd] at h2
    simp only [Bool.and_eq_true] at h2
    refine ⟨Nat.le_of_ble_eq_true h2.1, fun j hj e he => ?_⟩
    have := all_range h2.2 j hj
    rw [he] at this
    rintro rfl
    simp at this
  · rw [hg] at h4; exact h4
theorem slotL_at {j : Nat} {oj : Oper} (h : ops[j]? = some oj) : slotL ops.toList j = oj.dst := by rw [slotL_ok, h]; rfl
theorem geo_ok (h : drawOk N ops.toList = true) (h' : ordOk ops.toList (masks ops.toList []) (tailOf ops.toList) (orderOf ops.toList) = true) : Geo ops (tailOf ops.toList) (orderOf ops.toList) N := by
  generalize orderOf ops.toList = ord at h' ⊢
  have hm : tailOf ops.toList ≤ ops.size := by have := (tailN_ok (masks ops.toList []) ops.toList.length).1; unfold tailOf; simpa using this
  have htail : ∀ i, tailOf ops.toList ≤ i → i < ops.size → (masks ops.toList []).getD i 0 + 1 = Nat.shiftLeft 1 i := fun i h1 h2 => (tailN_ok (masks ops.toList []) ops.toList.length).2 i h1 (by simpa using h2)
  generalize tailOf ops.toList = m at h' hm htail ⊢
  unfold ordOk at h'
  rw [Bool.and_eq_true, Bool.and_eq_true] at h'
  obtain ⟨⟨h1, h2⟩, h3⟩ := h'
  have hlen : ord.length = m := Nat.eq_of_beq_eq_true h1
  have hget : ∀ p i : Nat, ord[p]? = some i → p < m ∧ ord.getD p 0 = i := fun p i hp => ⟨by rw [← hlen]; exact (List.getElem?_eq_some_iff.1 hp).1, by rw [List.getD_eq_getElem?_getD, hp]; rfl⟩
  have hpair : ∀ q p j i : Nat, q < p → ord[q]? = some j → ord[p]? = some i → j ≠ i ∧ dep ops j i = false ∧ ∀ oj, ops[j]? = some oj → isAct oj = true → dep ops i j = true := by
    intro q p j i hqp hq hp
    have h4 := all_range h3 p (hget p i hp).1
    rw [Bool.and_eq_true] at h4
    have h5 := all_range h4.2 q hqp
    rw [Bool.and_eq_true, Bool.and_eq_true, (hget p i hp).2, (hget q j hq).2] at h5
    obtain ⟨⟨h5, h6⟩, h7⟩ := h5
    refine ⟨?_, by simpa [dep] using h6, fun oj hoj ha => ?_⟩
    · rintro rfl; simp at h5
    · rw [Array.getElem?_toList, hoj] at h7
      dsimp only at h7
      rw [ha] at h7
      exact h7
  refine ⟨hlen, fun i hi => ?_, fun p i hp => ?_, fun p q i hp hq => ?_, fun q p j i h4 h5 h6 => (hpair q p j i h4 h5 h6).2.1, fun q p j i oj h4 h5 h6 h7 h8 => (hpair q p j i h4 h5 h6).2.2 oj h7 h8, fun i o ho => (drawOk_at h ho).1, fun i o d ho hd => ((drawOk_at h ho).2.1 d hd).1, ?_, ?_, fun i o j b ho hg => (drawOk_at h ho).2.2.2 (j, b) hg, ?_, ?_, hm⟩
  · have := all_range h2 i hi
    have := List.contains_iff_mem.1 this
    exact List.getElem?_of_mem this
  · have h4 := all_range h3 p (hget p i hp).1
    rw [Bool.and_eq_true, (hget p i hp).2] at h4
    exact Nat.le_of_ble_eq_true h4.1
  · rcases Nat.lt_trichotomy p q with h4 | h4 | h4
    · exact absurd rfl (hpair p q i i h4 hp hq).1
    · exact h4
    · exact absurd rfl (hpair q p i i h4 hq hp).1
  · intro i j o o' d ho ho' hd hd'
    rcases Nat.lt_trichotomy i j with h4 | h4 | h4
    · exact absurd rfl (((drawOk_at h ho').2.1 d hd').2 i h4 d (by rw [slotL_at ho, hd]))
    · exact h4
    · exact absurd rfl (((drawOk_at h ho).2.1 d hd).2 j h4 d (by rw [slotL_at ho', hd']))
  · intro i o t ho hx j oj hj hd
    have h4 : seenOk ops.toList (masks ops.toList []) i t = true := (drawOk_at h ho).2.2.1 _ hx
    have hlt : j < ops.toList.length := by have := (Array.getElem?_eq_some_iff.1 hj).1; simpa using this
    have h5 := all_range h4 j hlt
    rw [slotL_at hj, hd] at h5
    dsimp only at h5
    rw [Nat.beq_refl] at h5
    dsimp only [cond] at h5
    cases h6 : inM ((masks ops.toList []).getD i 0) j with
    | true => exact .inl h6
    | false => rw [h6] at h5; exact .inr h5
  · intro i o j ho hd
    obtain ⟨R, h4, h5⟩ := masks_get ops.toList []
    have h6 := h5 i o (by rw [Array.getElem?_toList]; exact ho)
    rw [List.nil_append] at h4 h6
    have h7 : dep ops i j = inM (maskL (R.take i) o.after.toList) j := by
      unfold dep
      rw [h4, List.getD_eq_getElem?_getD, h6]; rfl
    rw [h7] at hd
    obtain ⟨e, he, hb, h8⟩ := maskL_in hd
    refine ⟨e, by simpa using he, hb, h8.imp_right fun h9 => ?_⟩
    have hlt := (drawOk_at h ho).1 e (by simpa using he) hb
    unfold dep
    rw [h4, List.getD_eq_getElem?_getD]
    rw [List.getD_eq_getElem?_getD, List.getElem?_take, if_pos hlt] at h9
    exact h9
  · intro i o hi ho j hj
    exact inM_full (htail i hi (Array.getElem?_eq_some_iff.1 ho).1) hj
end
theorem To.drew {W : Nat → Prop} {ρ : Nm} {g : Get} {V : Nat → Prop} {w : World} (hH : HR ρ g V w) : To W ρ g V w ρ g V w.drew := ⟨fun _ _ => rfl, fun _ h => h, hH.drew, fun _ _ _ => rfl, fun _ o _ h1 h2 h3 => .inl ⟨h3, o, h1, h2⟩, fun _ _ _ => rfl, fun _ o h => ⟨o, h⟩, rfl, rfl, rfl, Nat.le_refl _⟩
section
variable {call : FuncId → RV → Hp → Rs} {P : Program} {ops : Array Oper} {h0 : Hp} {m N : Nat} {ord : List Nat} {E : Nat → Env} {S : Nat → Dr} {ρ0 : Nm} {w0 : World} {a0 : Act} {L : Nat → Bool} {a : Act} {w : World}
theorem PA.start (G : Geo ops m ord N) (T : Trc call P ops h0 ord E S) (hK0 : KR ρ0 N (E 0) a0) (hH0 : HR ρ0 h0.tr.get h0.names w0) : PA call P ops h0 m N ord E S ρ0 w0 a0 (fun _ => false) a0 w0 := by
  have hz : (S 0).full = h0.tr ∧ (S 0).next = h0.next := by rw [T.z]; exact ⟨rfl, rfl⟩
  have hseg : ∀ p, p ≤ ps ops ord (fun _ => false) → (∀ r, r < (S p).next → (S (ps ops ord fun _ => false)).full.get r = (S p).full.get r) ∧ ∀ r o, (S (ps ops ord fun _ => false)).full.get r = some o → (S p).full.get r = some o ∨ r < (S (ps ops ord fun _ => false)).next := fun p hp => T.seg _ p hp (ps_le _) fun k i _ hk hi => by
    cases ha : actAt ops i with
    | false => rfl
    | true => have := ps_lt hk hi ha; cases this
  have hv : vis h0 ord S (fun _ => false) = h0.names := funext fun r => propext ⟨fun h => h.elim id fun ⟨p, i, _, h, _⟩ => (by cases h), .inl⟩
  refine ⟨fun k h => by (cases h), fun k o _ h => by (cases h), hK0.size, hK0.defers, fun s _ => rfl, fun r o hr => ?_, fun p i o hp _ _ _ _ r _ hr => (hseg p (Nat.le_of_lt hp)).1 r hr, fun p i hp _ _ r _ hr => (hseg (p + 1) hp).1 r hr, ρ0, ?_, fun p k o d _ _ h => by (cases h)⟩
  · rcases (hseg 0 (Nat.zero_le _)).2 r o hr with h | h
    · rw [hz.1] at h
      exact Nat.lt_of_lt_of_le (hH0.lt h) (T.lo (ps_le _))
    · exact h
  · have hg : gL ops h0 ord S (fun _ => false) = h0.tr.get := funext fun r => by
      by_cases h : vis h0 ord S (fun _ => false) r
      · rw [gL_vis h]
        rw [hv] at h
        rw [(hseg 0 (Nat.zero_le _)).1 r (by rw [hz.2]; exact h), hz.1]
      · unfold gL
        rw [if_neg h]
        cases hr : h0.tr.get r with
        | none => rfl
        | some o => rw [hv] at h; exact absurd (hH0.lt hr) h
    rw [hg, hv]
    exact To.refl hH0
theorem PA.done (A : PA call P ops h0 m N ord E S ρ0 w0 a0 L a w) (G : Geo ops m ord N) (T : Trc call P ops h0 ord E S) (hK0 : KR ρ0 N (E 0) a0) (hH0 : HR ρ0 h0.tr.get h0.names w0) (hall : ∀ k, k < m → L k = true) : ∃ ρ, KR ρ N (E ord.length) a ∧ Go1 ρ0 h0 w0 ρ ⟨(S ord.length).next, h0.lo, h0.ro, (S ord.length).full⟩ w := by
  have hps : ps ops ord L = ord.length := by
    rcases Nat.lt_or_ge (ps ops ord L) ord.length with h | h
    · obtain ⟨i, h1, _, h2⟩ := ps_at h
      rw [hall i (G.lt _ i h1)] at h2; cases h2
    · exact Nat.le_antisymm (ps_le _) h
  obtain ⟨ρ, hT, hV⟩ := A.ex
  have hv : vis h0 ord S L = fun r => r < (S ord.length).next := funext fun r => propext ⟨fun h => hps ▸ vis_lt G T A.down h, fun h => by
    rcases Nat.lt_or_ge r h0.next with h1 | h1
    · exact .inl h1
    · obtain ⟨q, hq, h2, h3⟩ := T.tile h1 ord.length (Nat.le_refl _) h
      obtain ⟨i, hi, _⟩ := T.at_ hq
      exact .inr ⟨q, i, hi, hall i (G.lt q i hi), h2, h3⟩⟩
  have hg : gL ops h0 ord S L = (S ord.length).full.get := funext fun r => by
    by_cases h : vis h0 ord S L r
    · rw [gL_vis h, hps]
    · unfold gL
      rw [if_neg h]
      cases hr : (S ord.length).full.get r with
      | none => rfl
      | some o =>
        have := A.t2 r o (by rw [hps]; exact hr)
        rw [hps] at this
        rw [hv] at h; exact absurd this h
  rw [hg, hv] at hT
  refine ⟨ρ, ⟨A.size, A.defers, fun t => ?_⟩, hT, rfl, rfl⟩
  by_cases hex : ∃ (j : Nat) (oj : Oper), j < m ∧ ops[j]? = some oj ∧ oj.dst = some t
  · obtain ⟨j, oj, hjm, hj, hd⟩ := hex
    obtain ⟨q, hq⟩ := G.mem j hjm
    have hql : q < ord.length := (List.getElem?_eq_some_iff.1 hq).1
    have e : lk t (E ord.length) = lk t (E (q + 1)) := T.slots ord.length (q + 1) hql (Nat.le_refl _) fun k i' o' hk _ hk' ho' hd' => by
      obtain rfl := G.one i' j o' oj t ho' hj hd' hd
      have := G.uniq k q _ hk' hq
      omega
    rw [e]
    exact hV q j oj t hq hj (hall j hjm) hd
  · rw [Array.getD_eq_getD_getElem?, A.outer t (fun k ok hk hLk hdk => hex ⟨k, ok, A.sub k hLk, hk, hdk⟩), ← Array.getD_eq_getD_getElem?]
    have e : lk t (E ord.length) = lk t (E 0) := T.slots ord.length 0 (Nat.zero_le _) (Nat.le_refl _) fun k i' o' _ _ hk' ho' hd' => hex ⟨i', o', G.lt k i' hk', ho', hd'⟩
    rw [e]
    exact (hK0.val t).up (hT.up hH0)
theorem draw_ok (hm : P.follows .mixedOrders = true) : DrawOk P := by
  intro call hC N ops id env h x env' h' he ρ a w Q hK hH hQ
  replace he : (Bool.rec .no (drawA P call ops.toList h (masks ops.toList []) (fun env st => opsR P call ops.toList (ops.toList.drop (tailOf ops.toList)) env ⟨st.next, h.lo, h.ro, st.full⟩) (orderOf ops.toList) env ⟨h.tr, h.next, 0, [], []⟩) (drawOk N ops.toList && ordOk ops.toList (masks ops.toList []) (tailOf ops.toList) (orderOf ops.toList)) : Out) = .ok x env' h' := he
  cases hc : (drawOk N ops.toList && ordOk ops.toList (masks ops.toList []) (tailOf ops.toList) (orderOf ops.toList)) with
  | false => rw [hc] at he; cases he
  | true =>
    rw [hc] at he
    rw [Bool.and_eq_true] at hc
    have G := geo_ok hc.1 hc.2
    obtain ⟨E, S, hE0, hS0, hst, hfin⟩ := trace_ex _ env _ he
    generalize orderOf ops.toList = ord at G hst hfin
    generalize tailOf ops.toList = m at G hfin
    have T : Trc call P ops h ord E S := ⟨hS0, hst⟩
    have hb : h.next ≤ BIG := by
      rcases Nat.lt_or_ge BIG h.next with h1 | h1
      · exact absurd (hH.big BIG h1) (Nat.lt_irrefl _)
      · exact h1
    rw [← hE0] at hK
    refine region_inv (Inv := fun L a' w' => PA call P ops h m N ord E S ρ w.drew a L a' w' ∨ ∃ i env1 h1 ρ1, m ≤ i ∧ (∀ k, L k = true ↔ k < i) ∧ opsR P call ops.toList (ops.toList.drop i) env1 h1 = .ok x env' h' ∧ KR ρ1 N env1 a' ∧ Go1 ρ h w ρ1 h1 w') hm G.ahead (.inl (PA.start G T hK hH.drew)) ?_ ?_
    · intro i o a' w' L ho hn haft hI K hK'
      have hlt : i < ops.size := (Array.getElem?_eq_some_iff.1 ho).1
      have two : ∀ env1 h1 ρ1, m ≤ i → (∀ k, L k = true ↔ k < i) → opsR P call ops.toList (ops.toList.drop i) env1 h1 = .ok x env' h' → KR ρ1 N env1 a' → Go1 ρ h w ρ1 h1 w' → if Region.wanted o (yielded ops a'.tmps) = true then o.wp P a' w' K Q else K (a'.put o.dst undef) w' := by
        intro env1 h1 ρ1 hmi hL he1 hK1 hG1
        have hdrop : ops.toList.drop i = o :: ops.toList.drop (i + 1) := by
          rw [List.drop_eq_getElem_cons (by simpa using hlt)]
          congr 1
          have := (Array.getElem?_eq_some_iff.1 ho).2
          simpa using this
        have hd : ∀ e, o.dst = some e → e < N := fun e => G.dst i o e ho
        have hL' : ∀ k, (decide (k = i) || L k) = true ↔ k < i + 1 := fun k => by
          rw [Bool.or_eq_true, decide_eq_true_iff, hL k]; omega
        rw [hdrop] at he1
        replace he1 : (Option.rec .no (fun g => Bool.rec (opsR P call ops.toList (ops.toList.drop (i + 1)) (putD env1 o.dst .un) h1) (anR call h1 env1 o.dst (opsR P call ops.toList (ops.toList.drop (i + 1))) (opK o.op P h1.tr.get h1.next (evR env1) o)) g) (guardR ops.toList env1 o.guard) : Out) = .ok x env' h' := he1
        cases hg : guardR ops.toList env1 o.guard with
        | none => rw [hg] at he1; cases he1
        | some b =>
          rw [hg] at he1
          have hw := guard_ok hK1 hg
          rw [hw]
          cases b with
          | false =>
            rw [if_neg (by decide)]
            exact hK' undef w' (.inr ⟨i + 1, _, h1, ρ1, by omega, hL', he1, hK1.putD hd rfl, hG1⟩)
          | true =>
            rw [if_pos rfl]
            exact an_wp hC hG1.1.hr hK1 hd he1 (by simp) fun v env2 h2 ρ2 w2 e2 k2 g2 => hK' v w2 (.inr ⟨i + 1, env2, h2, ρ2, by omega, hL', e2, k2, hG1.trans g2⟩)
      rcases hI with A | ⟨i0, env1, h1, ρ1, hmi, hL, he1, hK1, hG1⟩
      · rcases Nat.lt_or_ge i m with hi | hi
        · cases ha : isAct o with
          | false => exact A.calm G T hK hH.drew hi ho hn haft ha fun v w1 h1 => hK' v w1 (.inl h1)
          | true => exact A.acts hC G T hK hH.drew hb hi ho hn haft ha fun v w1 h1 => hK' v w1 (.inl h1)
        · have hall : ∀ k, k < i → L k = true := fun k hk => dep_ready G A.down ho haft (G.tail i o hi ho k hk)
          have him : i = m := by
            rcases Nat.lt_or_eq_of_le hi with h1 | h1
            · have := A.sub m (hall m h1); omega
            · exact h1.symm
          obtain ⟨ρ1, hK1, hG1⟩ := A.done G T hK hH.drew fun k hk => hall k (by omega)
          refine two (E ord.length) _ ρ1 hi (fun k => ⟨fun h => him ▸ A.sub k h, hall k⟩) (by rw [him]; exact hfin) hK1 ?_
          obtain ⟨g1, g2, g3⟩ := hG1
          exact ⟨(To.drew hH).trans g1, g2, g3⟩
      · have hdown : Down ops L := fun k ok hk hLk e he hbd => (hL _).2 (by have := G.ahead k ok hk e he hbd; have := (hL k).1 hLk; omega)
        have hii : i = i0 := by
          rcases Nat.lt_trichotomy i i0 with h2 | h2 | h2
          · rw [(hL i).2 h2] at hn; cases hn
          · exact h2
          · have := (hL i0).1 (dep_ready G hdown ho haft (G.tail i o (by omega) ho i0 h2)); omega
        subst hii
        exact two env1 h1 ρ1 hmi hL he1 hK1 hG1
    · intro L a' w' hall hI
      have nilR : ∀ env1 h1 ρ1, opsR P call ops.toList [] env1 h1 = .ok x env' h' → KR ρ1 N env1 a' → Go1 ρ h w ρ1 h1 w' → Q .normal a' w' := by
        intro env1 h1 ρ1 he1 hK1 hG1
        injection (show Out.ok .nm env1 h1 = .ok x env' h' from he1) with e1 e2 e3
        subst e1 e2 e3
        exact hQ ρ1 a' w' rfl hK1 hG1
      rcases hI with A | ⟨i0, env1, h1, ρ1, hmi, hL, he1, hK1, hG1⟩
      · have hmn : m = ops.size := by
          rcases Nat.lt_or_eq_of_le G.mle with h1 | h1
          · have := A.sub m (hall m h1); omega
          · exact h1
        obtain ⟨ρ1, hK1, hG1⟩ := A.done G T hK hH.drew fun k hk => hall k (by omega)
        obtain ⟨g1, g2, g3⟩ := hG1
        rw [hmn, List.drop_of_length_le (by simp)] at hfin
        exact nilR _ _ ρ1 hfin hK1 ⟨(To.drew hH).trans g1, g2, g3⟩
      · have : ops.size ≤ i0 := by
          rcases Nat.lt_or_ge i0 ops.size with h2 | h2
          · have := (hL i0).1 (hall i0 h2); omega
          · exact h2
        rw [List.drop_of_length_le (by simpa using this)] at he1
        exact nilR _ _ ρ1 he1 hK1 hG1
end
end Go.Proofs.YtpehnaffepfabaaGreatDoor.Rx
namespace Go.Proofs.YtpehnaffepfabaaGreatDoor.Rx
open Go Go.RowKit
section
variable {P : Program}
theorem run_ok (hm : P.follows .mixedOrders = true) (fuel : Nat) : CallOk P (call P fuel) := call_ok (all_ok (draw_ok hm) fuel).1
def nm0 (tops : Nat → Nat) : Nm := fun r => if r < 64 then some ⟨r, tops r⟩ else none
theorem run_true (hm : P.follows .mixedOrders = true) {fuel : Nat} {f : FuncId} {args : RV} {vs : Array Value} {tr : Tr RO} {w : World} {tops : Nat → Nat} (hargs : RL (nm0 tops) args vs.toList)
    (hrows : ∀ r o, tr.get r = some o → r < 64 ∧ OR (nm0 tops) w ⟨r, tops r⟩ o)
    (hb : (bodyOf P f).isSome = true) (he : okB (call P fuel f args ⟨64, 64, [], tr⟩) = true) : Calls P f vs w fun e w' => e = .returned (.bool true) ∧ Below w.heap.size w w' := by
  have hH : HR (nm0 tops) (⟨64, 64, [], tr⟩ : Hp).tr.get (⟨64, 64, [], tr⟩ : Hp).names w := by
    refine ⟨fun r o h => ?_, fun r q h => ?_, fun r r' o o' q q' h h' _ _ hq hq' hne => ?_, fun k hk => ⟨⟨k, tops k⟩, if_pos hk, rfl⟩, fun r hr => ?_⟩
    · obtain ⟨h1, h2⟩ := hrows r o h
      exact ⟨_, if_pos h1, h2⟩
    · unfold nm0 at h
      split at h
      · assumption
      · cases h
    · unfold nm0 at hq hq'
      split at hq
      · split at hq'
        · obtain rfl := Option.some.inj hq
          obtain rfl := Option.some.inj hq'
          exact hne
        · cases hq'
      · cases hq
    · exact Nat.lt_trans (show r < 64 from hr) (by decide)
  cases hc : call P fuel f args ⟨64, 64, [], tr⟩ with
  | no => rw [hc] at he; cases he
  | ok v h' =>
    rw [hc] at he
    obtain ⟨q, hq⟩ := Option.isSome_iff_exists.1 hb
    rcases run_ok hm fuel f args _ v h' hc _ w vs hargs hH with ⟨V, w', h1, _⟩ | ⟨_, h1⟩
    · rw [en_ok hq] at h1; cases h1
    refine h1.mono ?_
    rintro e w' ⟨V, rfl, ρ', h1, h2, _, _⟩
    refine ⟨?_, h2.below (Nat.le_refl _) fun k _ => ?_⟩
    · cases v with
      | b x => cases x with
        | true => rw [show V = .bool true from h1]
        | false => cases he
      | _ => cases he
    · rintro ⟨r, o, q, h3, _, h5, _, _⟩
      have h6 := (hrows r o h3).1
      have h7 : mayW 64 [] r = true := h5
      have := (mayW_ok.1 h7).1
      omega
theorem mk_ok {ρ : Nm} : ∀ l : List Value, RL ρ (mk (l.map ofV1)) l := by
  intro l
  induction l with
  | nil => exact rfl
  | cons v l ih => exact ⟨v, l, rfl, ofV1_ok v, ih⟩
noncomputable def tabR (l : List Value) : RO := .tab (wr (mk (l.map ofV1)) .lf 0)
theorem tab_or {ρ : Nm} {w : World} {g top : Nat} {l : List Value} (h : ∀ (j : Nat) (v : Value), l[j]? = some v → w.cell? ((⟨g, 0, none⟩ : Addr).add j) = some v) (hl : Nat.blt 0 l.length = true) (hb : Nat.blt l.length BIG = true) : OR ρ w ⟨g, top⟩ (tabR l) := by
  replace hb : l.length < BIG := Nat.le_of_ble_eq_true hb
  replace hl : l ≠ [] := fun e => by rw [e] at hl; cases hl
  have hcells : ∀ (j : Nat) (v : Value), l[j]? = some v → ∃ (c : Array Value) (t : TypeId) (fr : Nat × Nat), w.heap[g]? = some (.cells c t fr) ∧ c[j]? = some v := by
    intro j v hj
    have h1 := h j v hj
    rw [Addr.add_lit, Nat.zero_add] at h1
    unfold World.cell? at h1
    split at h1
    · rename_i c t fr hh
      exact ⟨c, t, fr, hh, by simpa using h1⟩
    · cases h1
  obtain ⟨v0, l0, rfl⟩ := List.exists_cons_of_ne_nil hl
  obtain ⟨c, t, fr, h1, _⟩ := hcells 0 v0 rfl
  refine ⟨c, t, fr, h1, fun i x hx => ?_⟩
  have hlen := (mk_ok (ρ := ρ) (v0 :: l0)).len
  rw [wr_get (mk_ok (ρ := ρ) (v0 :: l0)) .lf 0 (by omega) i] at hx
  split at hx
  · obtain ⟨v, h2, h3⟩ := (mk_ok (ρ := ρ) (v0 :: l0)).nth hx
    obtain ⟨c', t', fr', h4, h5⟩ := hcells _ v h2
    rw [h1] at h4
    injection h4 with h4
    injection h4 with h6 _ _
    subst h6
    exact ⟨v, by simpa using h5, h3⟩
  · cases hx
end
end Go.Proofs.YtpehnaffepfabaaGreatDoor.Rx
namespace Go.Proofs.YtpehnaffepfabaaGreatDoor
open Go Go.ChangeShapes Go.WideShapes Go.ChangeAt Go.RowKit Go.Joins
theorem cellsOStr : Tryz.prog.cellsOf 9 = 1 := by kernel_rfl
def ordTab : List (List UInt8) := [[], [110, 97], [114, 108, 120], [97, 99, 113], [114, 101, 108], [97, 114], [115, 99]]
def sgnTab : List (List UInt8) := [[], [], [], [45], [33], [124, 124], [38, 38], [61, 61], [33, 61], [60], [60, 61], [124], [94], [38], [43], [45], [42]]
def keyTab : List (List UInt8) := [[], [], [108, 111, 97, 100], [115, 116, 111, 114, 101], [99, 97, 115], [97, 100, 100], [115, 119, 97, 112], [102, 101, 110, 99, 101], [97, 115, 115, 117, 109, 101], [97, 115, 115, 101, 114, 116], [105, 102], [119, 104, 105, 108, 101]]
set_option maxRecDepth 100000 in
theorem tab_of5 {W : World} {l : List (String × DataW Unit)} (h : laidMetH Tryz.prog l W) (hl : (l.filter fun x => (x.1 == "cantilever/ast.exprShapes" || x.1 == "cantilever/ast.stmtShapes") && x.2.handleName?.isNone) = [("cantilever/ast.exprShapes", Rows.laid_cantilever_ast_exprShapes), ("cantilever/ast.stmtShapes", Rows.laid_cantilever_ast_stmtShapes)]) : TabOk W := by
  have h1 := (laidMetH_iff.1 h).1.filter fun x => x.1 == "cantilever/ast.exprShapes" || x.1 == "cantilever/ast.stmtShapes"
  rw [List.filter_filter, hl] at h1
  obtain ⟨ps, ⟨g1, t1, cs1, f1, p1, q1, hg1, ht1, hv1, hd1, ⟨g2, t2, cs2, f2, p2, q2, hg2, ht2, hv2, hd2, _, _⟩, _⟩, _⟩ := h1
  obtain rfl := Option.some.inj (gE.symm.trans hg1)
  obtain rfl := Option.some.inj (gET.symm.trans ht1)
  obtain rfl := Option.some.inj (gS.symm.trans hg2)
  obtain rfl := Option.some.inj (gST.symm.trans ht2)
  refine ⟨?_, ?_⟩
  · obtain ⟨xs, m, _, hx, hcl, hxl, hel⟩ := DataW.trod_array Tryz.underlying173 hd1
    rw [laidE] at hx
    have hxs : xs.map (·.1) = (List.range 17).map datE := by
      have := congrArg Prod.fst hx
      simp only [DataW.agg.injEq] at this
      exact this.symm
    have e : cs1.toList = tabE := by
      rw [chunks (s := 3) 17 cs1.toList (hcl.trans (by kernel_rfl))]
      unfold tabE
      rw [List.flatMap_def, List.flatMap_def]
      congr 1
      apply List.map_congr_left
      intro i hi
      rw [List.mem_range] at hi
      have h2 := hel i hi
      rw [cellsXE, List.getElem?_eq_getElem (by omega)] at h2
      refine cells_shapeE (k := i) h2 ?_
      have h3 : (xs.map (·.1))[i]? = some (datE i) := by rw [hxs, List.getElem?_map, List.getElem?_range hi]; rfl
      rw [List.getElem?_map, List.getElem?_eq_getElem (by omega)] at h3
      exact Option.some.inj h3
    rw [← e]
    exact var_cells gE (by simpa using hv1)
  · obtain ⟨xs, m, _, hx, hcl, hxl, hel⟩ := DataW.trod_array Tryz.underlying178 hd2
    rw [laidS] at hx
    have hxs : xs.map (·.1) = (List.range 12).map datS := by
      have := congrArg Prod.fst hx
      simp only [DataW.agg.injEq] at this
      exact this.symm
    have e : cs2.toList = tabS := by
      rw [chunks (s := 6) 12 cs2.toList (hcl.trans (by kernel_rfl))]
      unfold tabS
      rw [List.flatMap_def, List.flatMap_def]
      congr 1
      apply List.map_congr_left
      intro i hi
      rw [List.mem_range] at hi
      have h2 := hel i hi
      rw [cellsXS, List.getElem?_eq_getElem (by omega)] at h2
      refine cells_shapeS (k := i) h2 ?_
      have h3 : (xs.map (·.1))[i]? = some (datS i) := by rw [hxs, List.getElem?_map, List.getElem?_range hi]; rfl
      rw [List.getElem?_map, List.getElem?_eq_getElem (by omega)] at h3
      exact Option.some.inj h3
    rw [← e]
    exact var_cells gS (by simpa using hv2)
theorem gOrd : Tryz.prog.globalNamed "cantilever/show.orders" = some 0 := by kernel_rfl
theorem gOrdT : (Tryz.prog.globals[0]?).map (·.type) = some 107 := by kernel_rfl
theorem laidOrd : (Rows.laid_cantilever_show_orders : DataW Unit) = .agg (ordTab.map fun s => .lit (.string s)) := by kernel_rfl
set_option maxRecDepth 100000 in
theorem ord_of {W : World} {l : List (String × DataW Unit)} (h : laidMetH Tryz.prog l W) (hl : (l.filter fun x => x.1 == "cantilever/show.orders" && x.2.handleName?.isNone) = [("cantilever/show.orders", Rows.laid_cantilever_show_orders)]) : CellsAt W ⟨0, 0, none⟩ (ordTab.map Str) := by
  have h1 := (laidMetH_iff.1 h).1.filter fun x => x.1 == "cantilever/show.orders"
  rw [List.filter_filter, hl] at h1
  obtain ⟨ps, ⟨g1, t1, cs1, f1, p1, q1, hg1, ht1, hv1, hd1, _⟩, _⟩ := h1
  obtain rfl := Option.some.inj (gOrd.symm.trans hg1)
  obtain rfl := Option.some.inj (gOrdT.symm.trans ht1)
  obtain ⟨xs, m, _, hx, hcl, hxl, hel⟩ := DataW.trod_array Tryz.underlying107 hd1
  rw [laidOrd] at hx
  have hxs : xs.map (·.1) = ordTab.map fun s => (.lit (.string s) : DataW Unit) := by
    have := congrArg Prod.fst hx
    simp only [DataW.agg.injEq] at this
    exact this.symm
  have hcl' : cs1.toList.length = 7 := hcl.trans (by kernel_rfl)
  have e : cs1.toList = ordTab.map Str := by
    refine List.ext_getElem? fun i => ?_
    by_cases hi : i < 7
    · have h2 := hel i hi
      rw [cellsOStr, List.getElem?_eq_getElem (by omega)] at h2
      obtain ⟨s, q, hq, _⟩ := DataW.trod_string Tryz.underlying9 h2
      have h3 : (xs.map (·.1))[i]? = some (.lit (.string s.data.toList)) := by rw [List.getElem?_map, List.getElem?_eq_getElem (by omega), hq]; rfl
      have hti : i < ordTab.length := hi
      rw [hxs, List.getElem?_map, List.getElem?_eq_getElem hti] at h3
      have h4 : ordTab[i] = s.data.toList := by simpa using h3
      have h5 : cs1.toList[i]? = some (.string s) := by
        have h6 := congrArg (fun l => l[0]?) q
        simp only [Nat.mul_one] at h6
        rw [List.getElem?_take_of_lt (by omega), List.getElem?_drop, Nat.add_zero] at h6
        exact h6
      rw [h5, List.getElem?_map, List.getElem?_eq_getElem hti, h4]; rfl
    · rw [List.getElem?_eq_none (by omega), List.getElem?_eq_none (by rw [List.length_map]; show 7 ≤ i; omega)]
  rw [← e]
  exact var_cells gOrd (by simpa using hv1)
theorem gSgn : Tryz.prog.globalNamed "cantilever/show.signs" = some 1 := by kernel_rfl
theorem gSgnT : (Tryz.prog.globals[1]?).map (·.type) = some 108 := by kernel_rfl
theorem laidSgn : (Rows.laid_cantilever_show_signs : DataW Unit) = .agg (sgnTab.map fun s => .lit (.string s)) := by kernel_rfl
set_option maxRecDepth 100000 in
theorem sgn_of {W : World} {l : List (String × DataW Unit)} (h : laidMetH Tryz.prog l W) (hl : (l.filter fun x => x.1 == "cantilever/show.signs" && x.2.handleName?.isNone) = [("cantilever/show.signs", Rows.laid_cantilever_show_signs)]) : CellsAt W ⟨1, 0, none⟩ (sgnTab.map Str) := by
  have h1 := (laidMetH_iff.1 h).1.filter fun x => x.1 == "cantilever/show.signs"
  rw [List.filter_filter, hl] at h1
  obtain ⟨ps, ⟨g1, t1, cs1, f1, p1, q1, hg1, ht1, hv1, hd1, _⟩, _⟩ := h1
  obtain rfl := Option.some.inj (gSgn.symm.trans hg1)
  obtain rfl := Option.some.inj (gSgnT.symm.trans ht1)
  obtain ⟨xs, m, _, hx, hcl, hxl, hel⟩ := DataW.trod_array Tryz.underlying108 hd1
  rw [laidSgn] at hx
  have hxs : xs.map (·.1) = sgnTab.map fun s => (.lit (.string s) : DataW Unit) := by
    have := congrArg Prod.fst hx
    simp only [DataW.agg.injEq] at this
    exact this.symm
  have hcl' : cs1.toList.length = 17 := hcl.trans (by kernel_rfl)
  have e : cs1.toList = sgnTab.map Str := by
    refine List.ext_getElem? fun i => ?_
    by_cases hi : i < 17
    · have h2 := hel i hi
      rw [cellsOStr, List.getElem?_eq_getElem (by omega)] at h2
      obtain ⟨s, q, hq, _⟩ := DataW.trod_string Tryz.underlying9 h2
      have h3 : (xs.map (·.1))[i]? = some (.lit (.string s.data.toList)) := by rw [List.getElem?_map, List.getElem?_eq_getElem (by omega), hq]; rfl
      have hti : i < sgnTab.length := hi
      rw [hxs, List.getElem?_map, List.getElem?_eq_getElem hti] at h3
      have h4 : sgnTab[i] = s.data.toList := by simpa using h3
      have h5 : cs1.toList[i]? = some (.string s) := by
        have h6 := congrArg (fun l => l[0]?) q
        simp only [Nat.mul_one] at h6
        rw [List.getElem?_take_of_lt (by omega), List.getElem?_drop, Nat.add_zero] at h6
        exact h6
      rw [h5, List.getElem?_map, List.getElem?_eq_getElem hti, h4]; rfl
    · rw [List.getElem?_eq_none (by omega), List.getElem?_eq_none (by rw [List.length_map]; show 17 ≤ i; omega)]
  rw [← e]
  exact var_cells gSgn (by simpa using hv1)
theorem gKey : Tryz.prog.globalNamed "cantilever/show.keywords" = some 4 := by kernel_rfl
theorem gKeyT : (Tryz.prog.globals[4]?).map (·.type) = some 189 := by kernel_rfl
theorem laidKey : (Rows.laid_cantilever_show_keywords : DataW Unit) = .agg (keyTab.map fun s => .lit (.string s)) := by kernel_rfl
set_option maxRecDepth 100000 in
theorem key_of {W : World} {l : List (String × DataW Unit)} (h : laidMetH Tryz.prog l W) (hl : (l.filter fun x => x.1 == "cantilever/show.keywords" && x.2.handleName?.isNone) = [("cantilever/show.keywords", Rows.laid_cantilever_show_keywords)]) : CellsAt W ⟨4, 0, none⟩ (keyTab.map Str) := by
  have h1 := (laidMetH_iff.1 h).1.filter fun x => x.1 == "cantilever/show.keywords"
  rw [List.filter_filter, hl] at h1
  obtain ⟨ps, ⟨g1, t1, cs1, f1, p1, q1, hg1, ht1, hv1, hd1, _⟩, _⟩ := h1
  obtain rfl := Option.some.inj (gKey.symm.trans hg1)
  obtain rfl := Option.some.inj (gKeyT.symm.trans ht1)
  obtain ⟨xs, m, _, hx, hcl, hxl, hel⟩ := DataW.trod_array Tryz.underlying189 hd1
  rw [laidKey] at hx
  have hxs : xs.map (·.1) = keyTab.map fun s => (.lit (.string s) : DataW Unit) := by
    have := congrArg Prod.fst hx
    simp only [DataW.agg.injEq] at this
    exact this.symm
  have hcl' : cs1.toList.length = 12 := hcl.trans (by kernel_rfl)
  have e : cs1.toList = keyTab.map Str := by
    refine List.ext_getElem? fun i => ?_
    by_cases hi : i < 12
    · have h2 := hel i hi
      rw [cellsOStr, List.getElem?_eq_getElem (by omega)] at h2
      obtain ⟨s, q, hq, _⟩ := DataW.trod_string Tryz.underlying9 h2
      have h3 : (xs.map (·.1))[i]? = some (.lit (.string s.data.toList)) := by rw [List.getElem?_map, List.getElem?_eq_getElem (by omega), hq]; rfl
      have hti : i < keyTab.length := hi
      rw [hxs, List.getElem?_map, List.getElem?_eq_getElem hti] at h3
      have h4 : keyTab[i] = s.data.toList := by simpa using h3
      have h5 : cs1.toList[i]? = some (.string s) := by
        have h6 := congrArg (fun l => l[0]?) q
        simp only [Nat.mul_one] at h6
        rw [List.getElem?_take_of_lt (by omega), List.getElem?_drop, Nat.add_zero] at h6
        exact h6
      rw [h5, List.getElem?_map, List.getElem?_eq_getElem hti, h4]; rfl
    · rw [List.getElem?_eq_none (by omega), List.getElem?_eq_none (by rw [List.length_map]; show 12 ≤ i; omega)]
  rw [← e]
  exact var_cells gKey (by simpa using hv1)
def numCells : DataW Unit → Array Value
  | .agg xs => (xs.map fun x => match x with
    | .lit (.int k n) => Value.int k n
    | _ => .nilIface).toArray
  | _ => #[]
noncomputable def laidWorld5 (os : Os) (vals : Array Value) : World :=
  let w0 := laidWorld os vals
  { w0 with heap := ((((((w0.heap.modify 9 (layCells (numCells Rows.laid_math_bits_deBruijn32tab))).modify 10 (layCells (numCells Rows.laid_math_bits_deBruijn64tab))).modify 5 (layCells (numCells Rows.laid_internal_strconv_uint64pow10))).modify 0 (layCells (ordTab.map Str).toArray)).modify 1 (layCells (sgnTab.map Str).toArray)).modify 4 (layCells (keyTab.map Str).toArray)) }
noncomputable def tabs5 : Rx.Tr Rx.RO := ((((Rx.Tr.lf.put 30 0 (Rx.tabR (ordTab.map Str))).put 30 1 (Rx.tabR (sgnTab.map Str))).put 30 4 (Rx.tabR (keyTab.map Str))).put 30 2 (Rx.tabR tabE)).put 30 3 (Rx.tabR tabS)
theorem tabs5_rows {w : World} (h1 : CellsAt w ⟨0, 0, none⟩ (ordTab.map Str)) (h2 : CellsAt w ⟨1, 0, none⟩ (sgnTab.map Str)) (h3 : CellsAt w ⟨4, 0, none⟩ (keyTab.map Str)) (h4 : TabOk w) : ∀ r o, tabs5.get r = some o → r < 64 ∧ Rx.OR (Rx.nm0 fun _ => 0) w ⟨r, 0⟩ o := by
  intro r o h
  unfold tabs5 at h
  rw [Rx.put_upd (by decide), Rx.put_upd (by decide), Rx.put_upd (by decide), Rx.put_upd (by decide), Rx.put_upd (by decide)] at h
  unfold Rx.upd at h
  split at h
  · rename_i e
    subst e
    obtain rfl := Option.some.inj h
    exact ⟨by decide, Rx.tab_or h4.s (by kernel_rfl) (by kernel_rfl)⟩
  · split at h
    · rename_i e
      subst e
      obtain rfl := Option.some.inj h
      exact ⟨by decide, Rx.tab_or h4.e (by kernel_rfl) (by kernel_rfl)⟩
    · split at h
      · rename_i e
        subst e
        obtain rfl := Option.some.inj h
        exact ⟨by decide, Rx.tab_or h3 (by kernel_rfl) (by kernel_rfl)⟩
      · split at h
        · rename_i e
          subst e
          obtain rfl := Option.some.inj h
          exact ⟨by decide, Rx.tab_or h2 (by kernel_rfl) (by kernel_rfl)⟩
        · split at h
          · rename_i e
            subst e
            obtain rfl := Option.some.inj h
            exact ⟨by decide, Rx.tab_or h1 (by kernel_rfl) (by kernel_rfl)⟩
          · cases h
set_option maxRecDepth 1000000 in
theorem shownames_rx (w : World) (h1 : CellsAt w ⟨0, 0, none⟩ (ordTab.map Str)) (h2 : CellsAt w ⟨1, 0, none⟩ (sgnTab.map Str)) (h3 : CellsAt w ⟨4, 0, none⟩ (keyTab.map Str)) (h4 : TabOk w) : Calls Tryz.prog 7 #[] w fun e w' => e = .returned (.bool true) ∧ Below w.heap.size w w' :=
  Rx.run_true (fuel := 3000) (args := .nl) (tr := tabs5) (by kernel_rfl) rfl (tabs5_rows h1 h2 h3 h4) (by kernel_rfl) (by kernel_rfl)
end Go.Proofs.YtpehnaffepfabaaGreatDoor
