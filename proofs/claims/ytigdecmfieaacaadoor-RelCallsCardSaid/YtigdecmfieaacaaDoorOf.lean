/-
  Package rel: Of, Has; Self and Turn of what may not be.
-/
import Derived.Test.YtigdecmfieaacaaDoorRelF
namespace Go.Proofs.YtigdecmfieaacaaDoor
open Go Go.RowKit

/-- Pairs as they lie in memory. -/
def prs (l : List (Int × Int)) : List Value := l.flatMap fun p => [I p.1, I p.2]
theorem prs_length (l : List (Int × Int)) : (prs l).length = l.length * 2 := by
  induction l with
  | nil => rfl
  | cons a l ih => simp [prs] at ih ⊢; omega
theorem prs_get (l : List (Int × Int)) (k : Nat) (p : Int × Int) (h : l[k]? = some p) : (prs l)[k * 2]? = some (I p.1) ∧ (prs l)[k * 2 + 1]? = some (I p.2) := by
  induction l generalizing k with
  | nil => simp at h
  | cons b l ih =>
    cases k with
    | zero =>
      have e : b = p := by simpa using h
      subst e
      simp [prs]
    | succ k =>
      have := ih k (by simpa using h)
      rw [show (k + 1) * 2 = k * 2 + 2 from by omega]
      simpa [prs] using this
theorem Reads.p {w : World} {B : Nat} {A : Option Addr} {l : List (Int × Int)} {k : Nat} (h : Reads w B 2 A l.length (prs l)) (hk : k < l.length) :
    ∃ ad p, A = some ad ∧ ad.block < B ∧ l[k]? = some p ∧ w.cell? (ad.add (k * 2)) = some (.int .i64 p.1) ∧ w.cell? ⟨(ad.add (k * 2)).block, (ad.add (k * 2)).off + 1, none⟩ = some (.int .i64 p.2) := by
  obtain ⟨h1, h2⟩ := h
  obtain ⟨ad, hA, hb, hc⟩ := h2 (by omega)
  have e := List.getElem?_eq_getElem hk
  obtain ⟨g1, g2⟩ := prs_get l k _ e
  exact ⟨ad, l[k], hA, hb, e, hc _ _ g1, by
    have := hc _ _ g2
    rw [← add_of_add] at this
    exact this⟩

def inP (n : Nat) (p : Int × Int) : Bool := decide (0 ≤ p.1 ∧ p.1 < n) && decide (0 ≤ p.2 ∧ p.2 < n)
def addP (n : Nat) (rows : List Nat) (p : Int × Int) : List Nat := if inP n p = true then rows.set p.1.toNat (rows.getD p.1.toNat 0 ||| 2 ^ p.2.toNat) else rows
def ofL (n : Nat) (l : List (Int × Int)) : List Nat := l.foldl (addP n) (List.replicate n 0)
theorem addP_length (n : Nat) (rows : List Nat) (p : Int × Int) : (addP n rows p).length = rows.length := by
  unfold addP; split <;> simp
theorem addP_lt {n : Nat} {rows : List Nat} (h : ∀ x ∈ rows, x < 2 ^ n) (p : Int × Int) : ∀ x ∈ addP n rows p, x < 2 ^ n := by
  unfold addP
  split
  · rename_i hp
    simp only [inP, Bool.and_eq_true, decide_eq_true_eq] at hp
    intro x hx
    rcases List.mem_or_eq_of_mem_set hx with hx | rfl
    · exact h x hx
    · refine Nat.or_lt_two_pow ?_ (Nat.pow_lt_pow_right (by decide) (by omega))
      rw [List.getD_eq_getElem?_getD]
      cases e : rows[p.1.toNat]? with
      | none => simp; exact Nat.two_pow_pos n
      | some y => exact h y (List.mem_of_getElem? e)
  · exact h
theorem foldl_addP_length (n : Nat) (l : List (Int × Int)) (rows : List Nat) : (l.foldl (addP n) rows).length = rows.length := by
  induction l generalizing rows with
  | nil => rfl
  | cons p l ih => rw [List.foldl_cons, ih, addP_length]
theorem foldl_addP_lt (n : Nat) (l : List (Int × Int)) (rows : List Nat) (h : ∀ x ∈ rows, x < 2 ^ n) : ∀ x ∈ l.foldl (addP n) rows, x < 2 ^ n := by
  induction l generalizing rows with
  | nil => exact h
  | cons p l ih => exact ih _ (addP_lt h p)
theorem ofL_length (n : Nat) (l : List (Int × Int)) : (ofL n l).length = n := by simp [ofL, foldl_addP_length]
theorem ofL_lt (n : Nat) (l : List (Int × Int)) : ∀ x ∈ ofL n l, x < 2 ^ n := foldl_addP_lt n l _ (fun x hx => by rw [(List.mem_replicate.1 hx).2]; exact Nat.two_pow_pos n)
theorem ofL_succ (n : Nat) (l : List (Int × Int)) (k : Nat) (p : Int × Int) (h : l[k]? = some p) : ofL n (l.take (k + 1)) = addP n (ofL n (l.take k)) p := by
  unfold ofL
  rw [List.take_add_one, h, List.foldl_append]; rfl
theorem within_yes {n i : Int} (A : Option Addr) (l c : Nat) (w : World) (h : 0 ≤ i ∧ i < n) : Calls Tryd.prog 48 #[.agg #[.int .i64 n, .slice A l c], .int .i64 i] w (Ret w (.bool true)) := by
  have := within_any n i A l c w; rwa [decide_eq_true h] at this
theorem within_no {n i : Int} (A : Option Addr) (l c : Nat) (w : World) (h : ¬ (0 ≤ i ∧ i < n)) : Calls Tryd.prog 48 #[.agg #[.int .i64 n, .slice A l c], .int .i64 i] w (Ret w (.bool false)) := by
  have := within_any n i A l c w; rwa [decide_eq_false h] at this

set_option maxHeartbeats 2000000 in
theorem of_ok (n : Nat) (A : Option Addr) (cap : Nat) (l : List (Int × Int)) (w : World) (h : n ≤ 64) (hl : l.length ≤ 5000) (hr : Reads w w.heap.size 2 A l.length (prs l)) :
    Calls Tryd.prog 11 #[.int .i64 n, .slice A l.length cap] w (RetQ w fun v w' => ∃ g, v = .agg #[.int .i64 n, .slice (some ⟨g, 0, none⟩) n n] ∧ w.heap.size ≤ g ∧ RowT w' g 37 ((ofL n l).map U)) := by
  have HR := Lib.hid hr
  clear hr
  go_enter Tryd.func11, Tryd.ntmps11
  go_wp2_with (go_at_call 13; refine (none_ok n _ h).mono ?_; rintro e w1 ⟨v, rfl, ⟨g, rfl, hg, hrow⟩, hb⟩; have hz := size_one hb)
  have x0 := ((RowT.new w 26 [.int .i64 0, .slice none 0 0]).below hb (by simp)).alloc (.cells #[.int .i64 n, .slice (some ⟨g, 0, none⟩) n n] 26)
  have x1 := RowT.new w1 26 [.int .i64 n, .slice (some ⟨g, 0, none⟩) n n]
  have hB : Below w.heap.size w w1 := (below_alloc w _).trans (hb.mono (by simp))
  simp only [World.size_alloc] at hg
  have hgl := hrow.lt
  have hrow' := hrow.alloc (.cells #[.int .i64 n, .slice (some ⟨g, 0, none⟩) n n] 26)
  have hB' := hB.alloc hB.size (.cells #[.int .i64 n, .slice (some ⟨g, 0, none⟩) n n] 26)
  clear hrow hB hb
  go_loopw [12] (fun i wr => ∃ k : Nat, i = .int .i64 k ∧ k ≤ l.length ∧ RowT wr g 37 ((ofL n (l.take k)).map U) ∧ RowT wr w1.heap.size 26 [.int .i64 n, .slice (some ⟨g, 0, none⟩) n n] ∧ RowT wr w.heap.size 26 [.int .i64 0, .slice none 0 0] ∧ Below w.heap.size w wr) (fun i _ => l.length - (intOf i).toNat)
  case atStart => exact ⟨0, rfl, by omega, hrow', x1, x0, hB'⟩
  case round =>
    obtain ⟨k, rfl, hk, hro, d1, d0, hBr⟩ := hrel
    clear x0 x1 hrow' hB'
    by_cases hlt : k < l.length
    · obtain ⟨ad, p, rfl, hbk, hp, hc0, hc1⟩ := (HR.out.below hBr).p hlt
      have d1l := d1.lt
      have hgl2 := hro.lt
      have y1 := d1.alloc (.cells #[.int .i64 p.1, .int .i64 p.2] 28)
      have y2 := RowT.new wr 28 [.int .i64 p.1, .int .i64 p.2]
      have y0 := d0.alloc (.cells #[.int .i64 p.1, .int .i64 p.2] 28)
      have y3 := hro.alloc (.cells #[.int .i64 p.1, .int .i64 p.2] 28)
      have hBc := hBr.alloc hBr.size (.cells #[.int .i64 p.1, .int .i64 p.2] 28)
      obtain ⟨a0, a1, a2, a3⟩ := d1.two
      have HP := Lib.hid hp
      clear hp d0
      by_cases h1 : 0 ≤ p.1 ∧ p.1 < n
      · by_cases h2 : 0 ≤ p.2 ∧ p.2 < n
        · obtain ⟨i, hi⟩ : ∃ i : Nat, p.1 = i := ⟨p.1.toNat, by omega⟩
          obtain ⟨j, hj⟩ : ∃ j : Nat, p.2 = j := ⟨p.2.toNat, by omega⟩
          have HPI := Lib.hid hi
          have HPJ := Lib.hid hj
          rw [hi] at hc0 y0 y1 y2 y3 hBc h1
          rw [hj] at hc1 y0 y1 y2 y3 hBc h2
          have hi' : i < n := by omega
          have hj' : j < n := by omega
          obtain ⟨x, hx⟩ : ∃ x, (ofL n (l.take k))[i]? = some x := ⟨_, List.getElem?_eq_getElem (by rw [ofL_length]; exact hi')⟩
          have HX := Lib.hid hx
          have HCX : Hid (∀ W, RowT W g 37 ((ofL n (l.take k)).map U) → W.cell? ⟨g, i, none⟩ = some (.int .u64 (x : Int))) := Lib.hid (fun W h => by
            rw [h.cell i, List.getElem?_map, hx]; rfl)
          clear hi hj hx
          go_wp2_with (go_at_call 48; refine (within_yes _ _ _ _ (by omega)).mono ?_; rintro e w2 ⟨rfl, hb2⟩; replace y0 := y0.below hb2 y0.lt; replace y1 := y1.below hb2 y1.lt; replace y2 := y2.below hb2 y2.lt; replace y3 := y3.below hb2 y3.lt; replace hBc := hBc.trans (hb2.mono hBc.size); obtain ⟨a0, a1, a2, a3⟩ := y1.two; obtain ⟨b0, b1, b2, b3⟩ := y2.two; have c0 := HCX.out _ y3; have c1 := y3.frozen i)
          go_region
          all_goals
            go_wp2
            go_roundw
            case rel =>
              have hne1 := y3.lt
              refine ⟨k + 1, by go_num, by omega, ?_, y1.drew.far (by simp; omega) _, y0.drew.far (by simp; omega) _, hBc.drew.setCell (by simp; omega) _⟩
              have := y3.drew.set_ i (U (x ||| 2 ^ j))
              rw [← List.map_set] at this
              have e2 : addP n (ofL n (l.take k)) p = (ofL n (l.take k)).set i (x ||| 2 ^ j) := by
                rw [addP, if_pos (by simp only [inP, HPI.out, HPJ.out, Bool.and_eq_true, decide_eq_true_eq]; omega), HPI.out, HPJ.out, Int.toNat_natCast, Int.toNat_natCast, List.getD_eq_getElem?_getD, HX.out]; rfl
              rw [ofL_succ n l k p HP.out, e2]
              have hx := ofL_lt n (l.take k) x (List.mem_of_getElem? HX.out)
              have := pow_le_64 n h
              rw [pow_cast, wrap_u64_nat _ (pow_lt_64 j (by omega)), u64_or_nat x _ (by omega) (pow_lt_64 j (by omega))]
              assumption
            case measure => simp [intOf]; omega
        · have hd1 := decide_eq_true h1
          have hd2 := decide_eq_false h2
          clear h1 h2
          go_wp2_with (go_at_call 48; refine (within_any _ _ _ _ _ _).mono ?_; (first | rw [hd1] | rw [hd2]); rintro e w2 ⟨rfl, hb2⟩; replace y0 := y0.below hb2 y0.lt; replace y1 := y1.below hb2 y1.lt; replace y2 := y2.below hb2 y2.lt; replace y3 := y3.below hb2 y3.lt; replace hBc := hBc.trans (hb2.mono hBc.size); obtain ⟨a0, a1, a2, a3⟩ := y1.two; obtain ⟨b0, b1, b2, b3⟩ := y2.two)
          go_roundw
          case rel =>
            refine ⟨k + 1, by go_num, by omega, ?_, y1, y0, hBc⟩
            rw [ofL_succ n l k p HP.out, addP, if_neg (by simp only [inP, Bool.and_eq_true, decide_eq_true_eq]; first | omega | (simp at hd2; omega))]
            exact y3
          case measure => simp [intOf]; omega
      · go_wp2_with (go_at_call 48; refine (within_no _ _ _ _ h1).mono ?_; rintro e w2 ⟨rfl, hb2⟩; replace y0 := y0.below hb2 y0.lt; replace y1 := y1.below hb2 y1.lt; replace y2 := y2.below hb2 y2.lt; replace y3 := y3.below hb2 y3.lt; replace hBc := hBc.trans (hb2.mono hBc.size); obtain ⟨a0, a1, a2, a3⟩ := y1.two; obtain ⟨b0, b1, b2, b3⟩ := y2.two)
        go_roundw
        case rel =>
          refine ⟨k + 1, by go_num, by omega, ?_, y1, y0, hBc⟩
          rw [ofL_succ n l k p HP.out, addP, if_neg (by simp only [inP, Bool.and_eq_true, decide_eq_true_eq]; first | omega | (simp at hd2; omega))]
          exact y3
        case measure => simp [intOf]; omega
    · obtain rfl : k = l.length := by omega
      rw [List.take_length] at hro
      obtain ⟨a0, a1, a2, a3⟩ := d1.two
      obtain ⟨b0, b1, b2, b3⟩ := d0.two
      have hs := d1.lt
      go_wp2
      exact post_rel4 rfl rfl rfl ((d0.set_ 0 _).set_ 1 _) ⟨_, rfl, ⟨g, rfl, by omega, (hro.far (by simp; omega) _).far (by simp; omega) _⟩, (hBr.setCell (by simp) _).setCell (by simp) _⟩
end Go.Proofs.YtigdecmfieaacaaDoor
