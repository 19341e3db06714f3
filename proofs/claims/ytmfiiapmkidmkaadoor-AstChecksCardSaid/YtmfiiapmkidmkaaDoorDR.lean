/-
  Slices of a call's own that are made at once and filled place by place; slices that are handed in.
-/
import Derived.Test.YtmfiiapmkidmkaaDoorDT
import Derived.Laws.MakeOwn
import Derived.Laws.Cover3
namespace Go.Proofs.YtmfiiapmkidmkaaDoor
open Go Go.RowKit

/-- n times these cells. -/
def zerosL (n : Nat) (zs : List Value) : List Value := (List.replicate n zs).flatten
theorem zerosL_length (n : Nat) (zs : List Value) : (zerosL n zs).length = n * zs.length := by
  unfold zerosL; rw [List.length_flatten, List.map_replicate, List.sum_replicate_nat]
theorem zerosL_succ (n : Nat) (zs : List Value) : zerosL (n + 1) zs = zs ++ zerosL n zs := by
  unfold zerosL; rw [List.replicate_succ, List.flatten_cons]
theorem made_zeros (z : Array Value) (n : Nat) : (madeCells z (n * z.size)).toList = zerosL n z.toList := by
  unfold madeCells
  rw [Array.toList_map, Array.toList_range]
  induction n with
  | zero => simp [zerosL]
  | succ n ih =>
    rw [Nat.succ_mul, List.range_add, List.map_append, ih]
    have h1 : (List.map (fun x => z[x % z.size]!) (List.map (fun x => n * z.size + x) (List.range z.size))) = z.toList := by
      apply List.ext_getElem
      · simp
      · intro i h1 h2
        simp at h1
        simp [Nat.mul_add_mod', Nat.mod_eq_of_lt h1, h1]
    rw [h1]
    have h2 : zerosL (n + 1) z.toList = zerosL n z.toList ++ z.toList := by
      unfold zerosL; rw [List.replicate_succ', List.flatten_append]; simp
    rw [h2]
section
variable {P : Program} {ops : Array Oper} {Q : Exit → Act → World → Prop} {a : Act} {n i : Nat} {env : List (Nat × Value)} {l : List Nat} {w0 w w' : World} {its : List It}
theorem stepMake (hK : Knows a n env) (hM : Mem w0 w its) (d : Nat) {t e : TypeId} {x y : Operand} (zs : List Value) (m bytes : Nat) (hu : P.underlying t = some (.slice e)) (hi : (P.info? e).map (fun i => (i.zero.map (·.cells.toList), i.size, i.bytes)) = some (some zs, zs.length, bytes))
    (hc : chk ops env i n d = true) (hop : (opAt ops i).op = .makeSlice t x y) (hx : evE env x = .int .i64 ((m : Nat) : Int)) (hy : evE env y = .int .i64 ((m : Nat) : Int)) (hlim : m ≤ 1000000 ∧ bytes ≤ 100000)
    (h : ∀ b a' w', Knows a' n ((d, .slice (some ⟨b, 0, none⟩) m m) :: env) → Mem w0 w' (.row b e (zerosL m zs) :: its) → wpOps P ops Q l a' w') : wpOps P ops Q (i :: l) a w := by
  obtain ⟨j, hj, he⟩ := Option.map_eq_some_iff.1 hi
  simp only [Prod.mk.injEq] at he
  obtain ⟨hz, hs, hb⟩ := he
  obtain ⟨z, hz, hzc⟩ := Option.map_eq_some_iff.1 hz
  have h3 : j.bytes * m ≤ 100000 * 1000000 := Nat.mul_le_mul (by omega) hlim.1
  have hr := run_make (P := P) w t e j z hu hj hz .i64 .i64 (m : Int) (m : Int) (by omega) (Int.le_refl _) (by
    have : ((j.bytes * m : Nat) : Int) ≤ 281474976710656 := by omega
    rwa [Int.natCast_mul] at this) (by omega)
  simp only [Int.toNat_natCast] at hr
  have hsz : j.size = z.cells.size := by rw [hs, ← hzc]; simp
  have e2 : (madeCells z.cells (m * j.size)) = (zerosL m zs).toArray := by
    rw [hsz, ← hzc, ← made_zeros]
  rw [e2] at hr
  refine stepV hK d _ hc ?_ fun a' hK' => h _ a' _ hK' (hM.alloc e (zerosL m zs))
  simp [execOp, hop, hx, hy, hr]
theorem storeV_at {t : TypeId} {k : Nat} {cs new : List Value} {v : Value} (hi : (P.info? t).map (·.size) = some new.length) (hv : v.cells.toList = new) (h1 : new.all (·.oneCell') = true) (hk : k + new.length ≤ cs.length) : storeV P t k cs v = some (cs.take k ++ new ++ cs.drop (k + new.length)) := by
  obtain ⟨j, hj, hs⟩ := Option.map_eq_some_iff.1 hi
  unfold storeV
  rw [hj]
  simp only
  have e1 : v.cells.size = new.length := by rw [← hv]; simp
  have e2 : v.cells.all (·.oneCell') = true := by rw [← hv] at h1; simpa using h1
  rw [e2, hs, e1]
  have : (Nat.beq new.length new.length && Nat.ble (k + new.length) cs.length && true) = true := by
    rw [Nat.beq_refl, Bool.true_and, Bool.and_true]; rw [Nat.ble_eq]; exact hk
  rw [this, hv]; rfl
theorem stepStoreAt (hK : Knows a n env) (hM : Mem w0 w its) (j : Nat) {t tt : TypeId} {x y : Operand} {b k : Nat} {cs : List Value} {v : Value} (new cs' : List Value) (hc : chk0 ops env i = true) (hop : (opAt ops i).op = .store t x y) (hx : evE env x = .pointer (some ⟨b, k, none⟩)) (hy : evE env y = v) (hj : its[j]? = some (.row b tt cs))
    (hi : (P.info? t).map (·.size) = some new.length) (hv : v.cells.toList = new) (h1 : new.all (·.oneCell') = true) (hk : k + new.length ≤ cs.length) (hcs : cs.take k ++ new ++ cs.drop (k + new.length) = cs')
    (h : ∀ w', Mem w0 w' (its.set j (.row b tt cs')) → wpOps P ops Q l a w') : wpOps P ops Q (i :: l) a w := by
  subst hcs
  exact stepStore hK hM j _ hc hop hx hy hj (storeV_at hi hv h1 hk) h
end
theorem CellsAt.to {w : World} {a : Addr} {cs cs' : List Value} (h : CellsAt w a cs) (e : cs = cs') : CellsAt w a cs' := e ▸ h
theorem put_next {A new zs : List Value} {m k : Nat} (hA : A.length = k) (hz : zs.length = new.length) (hm : 0 < m) : (A ++ zerosL m zs).take k ++ new ++ (A ++ zerosL m zs).drop (k + new.length) = A ++ new ++ zerosL (m - 1) zs := by
  obtain ⟨m, rfl⟩ : ∃ q, m = q + 1 := ⟨m - 1, by omega⟩
  subst hA
  rw [zerosL_succ, List.take_left, ← List.drop_drop, List.drop_left, ← hz, List.drop_left]
  rfl
/-- Elements that are handed in. -/
def HandAt {α : Type} (w : World) (A : Option Addr) (cs : α → List Value) (s : Nat) (l : List α) : Prop := ∀ (k : Nat) (x : α), l[k]? = some x → ∃ a, A = some a ∧ CellsAt w (a.add (k * s)) (cs x)
theorem HandAt.on {α : Type} {w w' : World} {A : Option Addr} {cs : α → List Value} {s : Nat} {l : List α} (h : HandAt w A cs s l) (hb : Below w.heap.size w w') : HandAt w' A cs s l := fun k x hx => (by
  obtain ⟨a, e1, e2⟩ := h k x hx
  exact ⟨a, e1, e2.on hb⟩)
theorem HandAt.row {α : Type} {w : World} {b : Nat} {t : TypeId} {f : α → Value} {l : List α} (h : RowT w b t (l.map f)) : HandAt w (some ⟨b, 0, none⟩) (fun x => [f x]) 1 l := by
  intro k x hx
  refine ⟨_, rfl, ?_⟩
  intro j v hj
  have h0 : j = 0 := by
    have := (List.getElem?_eq_some_iff.1 hj).1
    simp at this; omega
  subst h0
  obtain rfl := Option.some.inj hj
  rw [Nat.mul_one]
  have e : (Addr.add (⟨b, 0, none⟩ : Addr) k).add 0 = ⟨b, k, none⟩ := by
    rw [show (Addr.add (⟨b, 0, none⟩ : Addr) k).add 0 = Addr.add (⟨b, 0, none⟩ : Addr) k from if_pos rfl, Addr.add_mid, Nat.zero_add]
  rw [e, h.cell, List.getElem?_map, hx]; rfl
/-- A slice of one's own, as one that is handed in. -/
theorem own_hand {α : Type} {base : Nat} {w : World} {e : TypeId} {v : Value} {n : Nat} {f : α → Value} {l : List α} (h : w.ownsRow base e 1 v n (l.map f)) : ∃ A c, v = .slice A l.length c ∧ n = l.length ∧ HandAt w A (fun x => [f x]) 1 l ∧ (A = none → l = []) := by
  have hn : l.length = n := by have := h.1; simp at this; omega
  rcases h.2 with ⟨rfl, h0⟩ | ⟨g, cap, cur, rfl, hg, hh, h1, h2, h3, h4⟩
  · have hl : l = [] := List.eq_nil_of_length_eq_zero (by omega)
    subst hl
    exact ⟨none, 0, rfl, h0, fun k x hx => (by simp at hx), fun _ => rfl⟩
  · refine ⟨some ⟨g, 0, none⟩, cap, by rw [hn], hn.symm, ?_, fun h => (by cases h)⟩
    intro k x hx
    refine ⟨_, rfl, ?_⟩
    intro j u hj
    have h0 : j = 0 := by
      have := (List.getElem?_eq_some_iff.1 hj).1
      simp at this; omega
    subst h0
    obtain rfl := Option.some.inj hj
    rw [Nat.mul_one, show (Addr.add (⟨g, 0, none⟩ : Addr) k).add 0 = Addr.add (⟨g, 0, none⟩ : Addr) k from if_pos rfl]
    exact h.cells (g := g) rfl k _ (by rw [List.getElem?_map, hx]; rfl)
/-- A row that is a slice. -/
theorem row_own {base : Nat} {w : World} {b : Nat} {t : TypeId} {cs : List Value} {n s : Nat} (hb : base ≤ b) (h : RowT w b t cs) (hl : cs.length = n * s) (hn : n ≤ 1000000) : w.ownsRow base t s (.slice (some ⟨b, 0, none⟩) n n) n cs := by
  refine ⟨hl, .inr ⟨b, n, cs.toArray, rfl, hb, h, Nat.le_refl _, by unfold maxLen; omega, by simp [hl], by rw [← hl]; simp⟩⟩
theorem Mem.rowOwn {w0 w : World} {its : List It} {b : Nat} {t : TypeId} {cs : List Value} (hM : Mem w0 w (.row b t cs :: its)) {n s : Nat} (hl : cs.length = n * s) (hn : n ≤ 1000000) : Mem w0 w (.own t s (.slice (some ⟨b, 0, none⟩) n n) n cs :: its) := by
  refine ⟨hM.below, fun it hi => ?_, ?_⟩
  · rcases List.mem_cons.1 hi with rfl | hi
    · have h := hM.each _ List.mem_cons_self
      exact row_own h.1 h.2 hl hn
    · exact hM.each it (List.mem_cons_of_mem _ hi)
  · have := hM.apart
    rw [List.pairwise_cons] at this ⊢
    refine ⟨fun y hy => ?_, this.2⟩
    exact this.1 y hy
theorem run_eqNil {P : Program} {o : Oper} {ρ : Operand → Value} {w : World} {t e u : TypeId} {x y : Operand} {A : Option Addr} {n c : Nat} (hop : o.op = .binOp .eql t x y u) (hx : ρ x = .slice A n c) (hy : ρ y = .slice none 0 0) (ht : P.underlying t = some (.slice e)) : (execOp ρ o).run P w = .ok (.value (.bool A.isNone)) w := by
  simp [execOp, hop, hx, hy, go_sem, binOp, run_equal_slice_nil w t e A n c ht, Result.andThen]
/-- What is counted: eleven numbers. -/
def kL (c : Int → Nat) : List Value := (List.range 11).map fun j : Nat => .int .i64 ((c ((j : Int) + 1) : Nat) : Int)
def bumpK (k : Int) (c : Int → Nat) : Int → Nat := fun j => c j + if k = j then 1 else 0
theorem kL_out {k : Int} (h : ¬ (1 ≤ k ∧ k ≤ 11)) (c : Int → Nat) : kL (bumpK k c) = kL c := by
  unfold kL bumpK
  apply List.map_congr_left
  intro j hj
  rw [List.mem_range] at hj
  rw [if_neg (by omega), Nat.add_zero]
theorem kL_at {k : Int} (h : 1 ≤ k ∧ k ≤ 11) (c : Int → Nat) : ((kL c).drop ((k - 1).toNat * 1)).take 1 = [.int .i64 ((c k : Nat) : Int)] := by
  obtain ⟨j, rfl⟩ : ∃ j : Nat, k = (j : Int) + 1 := ⟨(k - 1).toNat, by omega⟩
  have hj : j < 11 := by omega
  rw [show ((j : Int) + 1 - 1).toNat * 1 = j by omega]
  have e : (kL c)[j]? = some (.int .i64 ((c ((j : Int) + 1) : Nat) : Int)) := by
    unfold kL; rw [List.getElem?_map, List.getElem?_range hj]; rfl
  obtain ⟨h1, h2⟩ := List.getElem?_eq_some_iff.1 e
  rw [List.drop_eq_getElem_cons h1, h2]; rfl
theorem kL_put {k : Int} (h : 1 ≤ k ∧ k ≤ 11) (c : Int → Nat) : (kL c).take ((k - 1).toNat * 1) ++ [Value.int .i64 (((c k + 1 : Nat)) : Int)] ++ (kL c).drop ((k - 1).toNat * 1 + [Value.int .i64 (((c k + 1 : Nat)) : Int)].length) = kL (bumpK k c) := by
  obtain ⟨j, rfl⟩ : ∃ j : Nat, k = (j : Int) + 1 := ⟨(k - 1).toNat, by omega⟩
  have hj : j < 11 := by omega
  rw [show ((j : Int) + 1 - 1).toNat * 1 = j by omega]
  have hlen : (kL c).length = 11 := by simp [kL]
  apply List.ext_getElem?
  intro q
  show (_ ++ _ ++ (kL c).drop (j + 1))[q]? = _
  have hk : ∀ c : Int → Nat, ∀ q, (kL c)[q]? = if q < 11 then some (.int .i64 ((c ((q : Int) + 1) : Nat) : Int)) else none := by
    intro c q
    unfold kL
    rw [List.getElem?_map]
    split
    · rename_i hq; rw [List.getElem?_range hq]; rfl
    · rename_i hq; rw [List.getElem?_eq_none (by simpa using hq)]; rfl
  rw [hk (bumpK _ c)]
  rcases Nat.lt_trichotomy q j with hq | hq | hq
  · rw [List.getElem?_append_left (by simp [hlen]; omega), List.getElem?_append_left (by simp [hlen]; omega), List.getElem?_take, if_pos hq, hk]
    unfold bumpK
    rw [if_neg (show ¬ ((j : Int) + 1 = (q : Int) + 1) by omega), Nat.add_zero]
  · subst hq
    rw [List.getElem?_append_left (by simp [hlen]; omega), List.getElem?_append_right (by simp [hlen]; omega)]
    have : ((kL c).take q).length = q := by simp [hlen]; omega
    rw [this, Nat.sub_self, if_pos hj]
    unfold bumpK
    rw [if_pos rfl]; rfl
  · rw [List.getElem?_append_right (by simp [hlen]; omega)]
    have : (((kL c).take j) ++ [Value.int .i64 (((c ((j : Int) + 1) + 1 : Nat)) : Int)]).length = j + 1 := by simp [hlen]; omega
    rw [this, List.getElem?_drop, show j + 1 + (q - (j + 1)) = q by omega, hk]
    unfold bumpK
    rw [if_neg (show ¬ ((j : Int) + 1 = (q : Int) + 1) by omega), Nat.add_zero]
end Go.Proofs.YtmfiiapmkidmkaaDoor
