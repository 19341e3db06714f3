/-
  Package rel: slices of relations; alike, Same.
-/
import Derived.Test.YtigdecmfieaacaaDoorRelB
namespace Go.Proofs.YtigdecmfieaacaaDoor
open Go Go.RowKit

/-- A relation as it lies in memory: its number, where its rows lie, the rows. -/
structure RA where
  n : Int
  A : Option Addr
  cap : Nat
  rows : List Nat
def RA.val (a : RA) : Value := .agg #[.int .i64 a.n, .slice a.A a.rows.length a.cap]
def RA.cells (a : RA) : List Value := [.int .i64 a.n, .slice a.A a.rows.length a.cap]
def RA.good (a : RA) (w : World) : Prop := (∀ x ∈ a.rows, x < 18446744073709551616) ∧ Reads w w.heap.size 1 a.A a.rows.length (a.rows.map U)
theorem RA.good.on {a : RA} {w w' : World} (h : a.good w) (hb : Below w.heap.size w w') : a.good w' := ⟨h.1, h.2.into hb⟩
/-- A new relation, all of its own. -/
def NewR (B : Nat) (rows : List Nat) (v : Value) (w' : World) : Prop := ∃ g, v = .agg #[.int .i64 rows.length, .slice (some ⟨g, 0, none⟩) rows.length rows.length] ∧ B ≤ g ∧ RowT w' g 37 (rows.map U)
def zeroR : Value := .agg #[.int .i64 0, .slice none 0 0]
def RA.ok (a : RA) : Bool := okR a.n a.rows
theorem cells_get (L : List RA) (k : Nat) (a : RA) (h : L[k]? = some a) : (L.flatMap RA.cells)[k * 2]? = some (.int .i64 a.n) ∧ (L.flatMap RA.cells)[k * 2 + 1]? = some (.slice a.A a.rows.length a.cap) := by
  induction L generalizing k with
  | nil => simp at h
  | cons b L ih =>
    cases k with
    | zero =>
      have e : b = a := by simpa using h
      subst e
      simp [RA.cells]
    | succ k =>
      have := ih k (by simpa using h)
      rw [show (k + 1) * 2 = k * 2 + 2 from by omega]
      simpa [RA.cells] using this
/-- Are there any, may all be, and are they of one number? -/
def alikeL (L : List RA) : Bool := match L with
  | [] => false
  | a :: _ => L.all fun b => b.ok && decide (b.n = a.n)

theorem alike_step {L : List RA} {k : Nat} {a : RA} (ha : L[k]? = some a) (ho : a.ok = true) (hn : ∀ b ∈ L.head?, a.n = b.n) (hall : ∀ b ∈ L.take k, b.ok = true ∧ ∀ a ∈ L.head?, b.n = a.n) :
    ∀ b ∈ L.take (k + 1), b.ok = true ∧ ∀ a ∈ L.head?, b.n = a.n := by
  intro b hb
  rw [List.take_add_one, ha] at hb
  rcases List.mem_append.1 hb with hb | hb
  · exact hall b hb
  · simp at hb
    subst hb
    exact ⟨ho, hn⟩
theorem alike_head {L : List RA} {a a0 : RA} (h0 : L[0]? = some a0) (hn : a.n = a0.n) : ∀ b ∈ L.head?, a.n = b.n := by
  intro b hb
  rw [List.head?_eq_getElem?, h0] at hb
  simp at hb
  rw [hn, hb]
theorem alike_no2 {L : List RA} {k : Nat} {a : RA} (ha : L[k]? = some a) (ho : a.ok = false) : alikeL L = false := by
  cases L with
  | nil => rfl
  | cons b L =>
    unfold alikeL
    rw [List.all_eq_false]
    exact ⟨a, List.mem_of_getElem? ha, by simp [ho]⟩
theorem alike_no1 {L : List RA} {k : Nat} {a a0 : RA} (ha : L[k]? = some a) (h0 : L[0]? = some a0) (hn : ¬ a.n = a0.n) : alikeL L = false := by
  cases L with
  | nil => rfl
  | cons b L =>
    obtain rfl : b = a0 := by simpa using h0
    unfold alikeL
    rw [List.all_eq_false]
    exact ⟨a, List.mem_of_getElem? ha, by simp [hn]⟩
theorem alike_yes {L : List RA} (hall : ∀ b ∈ L.take L.length, b.ok = true ∧ ∀ a ∈ L.head?, b.n = a.n) (hL : L ≠ []) : alikeL L = true := by
  rw [List.take_length] at hall
  cases L with
  | nil => exact absurd rfl hL
  | cons b L =>
    unfold alikeL
    rw [List.all_eq_true]
    intro x hx
    obtain ⟨h1, h2⟩ := hall x hx
    simp [h1, h2 b (by simp)]
set_option maxHeartbeats 2000000 in
theorem alike_any (L : List RA) (gl : Nat) (w : World) (hlen : L.length < 1000) (hL : RowT w gl 26 (L.flatMap RA.cells)) (hg : ∀ a ∈ L, a.good w) :
    Calls Tryd.prog 50 #[.slice (some ⟨gl, 0, none⟩) L.length L.length] w (Ret w (.bool (alikeL L))) := by
  have HG := Lib.hid hg
  have hgl := hL.lt
  clear hg
  go_enter Tryd.func50, Tryd.ntmps50
  go_wp2
  go_loopw [7] (fun i wr => ∃ k : Nat, i = .int .i64 k ∧ k ≤ L.length ∧ (∀ b ∈ L.take k, b.ok = true ∧ ∀ a ∈ L.head?, b.n = a.n) ∧ Below w.heap.size w wr) (fun i _ => L.length - (intOf i).toNat)
  case atStart => exact ⟨0, rfl, by omega, by simp, Below.refl _ _⟩
  case round =>
    obtain ⟨k, rfl, hk, hall, hB⟩ := hrel
    have HA := Lib.hid hall
    clear hall
    by_cases hlt : k < L.length
    · obtain ⟨a, ha⟩ : ∃ a, L[k]? = some a := ⟨_, List.getElem?_eq_getElem hlt⟩
      obtain ⟨a0, ha0⟩ : ∃ a, L[0]? = some a := ⟨_, List.getElem?_eq_getElem (by omega)⟩
      have hr := hL.below hB hgl
      have h0 := hr.cell (k * 2)
      have h1 := hr.cell (k * 2 + 1)
      have h2 := hr.cell 0
      rw [(cells_get L k a ha).1] at h0
      rw [(cells_get L k a ha).2] at h1
      rw [(cells_get L 0 a0 ha0).1] at h2
      have gd := Lib.hid ((HG.out a (List.mem_of_getElem? ha)).on hB)
      have HK := Lib.hid ha
      have H0 := Lib.hid ha0
      clear ha ha0
      have hgr : gl < wr.heap.size := Nat.lt_of_lt_of_le hgl hB.size
      have HR := Lib.hid hr
      clear hr
      by_cases ho : a.ok = true
      · by_cases hn : a.n = a0.n
        · have hnb : (a.n != a0.n) = false := by simp [hn]
          have HN := Lib.hid hn
          clear hn
          go_wp2
          go_region_with (go_at_call 16; refine (check_ok gd.out.1 ?_ ho).mono ?_; exact gd.out.2.into (below_alloc _ _).drew; rintro e w1 ⟨rfl, hb⟩; obtain ⟨p0, p1, q0, q1⟩ := ((RowT.new wr 26 [.int .i64 a.n, .slice a.A a.rows.length a.cap]).drew.below hb (by simp)).two; have p2 := (((HR.out.alloc (.cells #[.int .i64 a.n, .slice a.A a.rows.length a.cap] 26)).drew.below hb (by simp; omega)).cell 0).trans ((HR.out.cell 0).symm.trans h2))
          all_goals go_wp2
          all_goals
            go_roundw
            case rel => exact ⟨k + 1, by go_num, by omega, alike_step HK.out ho (alike_head H0.out HN.out) HA.out, hB.trans ((((below_alloc _ _).drew).trans (hb.mono (by simp))).mono hB.size)⟩
            case measure => simp [intOf]; omega
        · have hnb : (a.n != a0.n) = true := by simp [hn]
          have HN := Lib.hid hn
          clear hn
          go_wp2
          go_region_with (go_at_call 16; refine (check_ok gd.out.1 ?_ ho).mono ?_; exact gd.out.2.into (below_alloc _ _).drew; rintro e w1 ⟨rfl, hb⟩; obtain ⟨p0, p1, q0, q1⟩ := ((RowT.new wr 26 [.int .i64 a.n, .slice a.A a.rows.length a.cap]).drew.below hb (by simp)).two; have p2 := (((HR.out.alloc (.cells #[.int .i64 a.n, .slice a.A a.rows.length a.cap] 26)).drew.below hb (by simp; omega)).cell 0).trans ((HR.out.cell 0).symm.trans h2))
          all_goals go_wp2
          all_goals go_ret
          all_goals exact Ret.b (by rw [alike_no1 HK.out H0.out HN.out]) (hB.trans (((below_alloc _ _).drew).trans (hb.mono (by simp)) |>.mono hB.size))
      · have ho : a.ok = false := by simpa using ho
        go_wp2
        first | go_region_with (go_at_call 16; refine (check_bad gd.out.1 ?_ ho).mono ?_; exact gd.out.2.into (below_alloc _ _).drew; rintro e w1 ⟨rfl, hb⟩; obtain ⟨p0, p1, q0, q1⟩ := ((RowT.new wr 26 [.int .i64 a.n, .slice a.A a.rows.length a.cap]).drew.below hb (by simp)).two; have p2 := (((HR.out.alloc (.cells #[.int .i64 a.n, .slice a.A a.rows.length a.cap] 26)).drew.below hb (by simp; omega)).cell 0).trans ((HR.out.cell 0).symm.trans h2)) | fail
        all_goals go_wp2
        all_goals go_ret
        all_goals exact Ret.b (by rw [alike_no2 HK.out ho]) (hB.trans (((below_alloc _ _).drew).trans (hb.mono (by simp)) |>.mono hB.size))
    · go_wp2
      go_ret
      refine Ret.b ?_ hB
      obtain rfl : k = L.length := by omega
      cases L with
      | nil => rfl
      | cons b L => rw [alike_yes HA.out (by simp)]; simp
theorem alike_two (a b : RA) (r : Bool) (gl : Nat) (W : World) (hr : alikeL [a, b] = r) (hL : RowT W gl 26 [.int .i64 a.n, .slice a.A a.rows.length a.cap, .int .i64 b.n, .slice b.A b.rows.length b.cap]) (ha : a.good W) (hb : b.good W) :
    Calls Tryd.prog 50 #[.slice (some ⟨gl, 0, none⟩) 2 2] W (Ret W (.bool r)) := by
  rw [← hr]
  exact alike_any [a, b] gl W (by simp) hL (by intro x hx; simp at hx; rcases hx with rfl | rfl; exact ha; exact hb)
theorem alike_len {a b : RA} (h : alikeL [a, b] = true) : a.ok = true ∧ b.ok = true ∧ (a.rows.length : Int) = a.n ∧ (b.rows.length : Int) = b.n ∧ b.rows.length = a.rows.length ∧ a.rows.length ≤ 64 := by
  simp only [alikeL, List.all_cons, List.all_nil, Bool.and_true, Bool.and_eq_true, decide_eq_true_eq] at h
  obtain ⟨⟨h1, _⟩, h2, h3⟩ := h
  have h4 := h1
  have h5 := h2
  simp only [RA.ok, okR, Bool.and_eq_true, decide_eq_true_eq] at h4 h5
  exact ⟨h1, h2, h4.1.2, h5.1.2, by omega, by omega⟩
/-- What two relations handed to a call look like behind three new blocks. -/
theorem two_boxes (a b : RA) (w : World) (ha : a.good w) (hb : b.good w) (W : World)
    (hW : W = ((w.alloc (.cells #[.int .i64 a.n, .slice a.A a.rows.length a.cap] 26)).alloc (.cells #[.int .i64 b.n, .slice b.A b.rows.length b.cap] 26)).alloc (.cells #[.int .i64 a.n, .slice a.A a.rows.length a.cap, .int .i64 b.n, .slice b.A b.rows.length b.cap] 26)) :
    RowT W w.heap.size 26 [.int .i64 a.n, .slice a.A a.rows.length a.cap] ∧ RowT W (w.heap.size + 1) 26 [.int .i64 b.n, .slice b.A b.rows.length b.cap] ∧
    RowT W (w.heap.size + 1 + 1) 26 [.int .i64 a.n, .slice a.A a.rows.length a.cap, .int .i64 b.n, .slice b.A b.rows.length b.cap] ∧ Below w.heap.size w W ∧ a.good W ∧ b.good W := by
  subst hW
  have r1 := (RowT.new (w.alloc (.cells #[.int .i64 a.n, .slice a.A a.rows.length a.cap] 26)) 26 [.int .i64 b.n, .slice b.A b.rows.length b.cap]).alloc (.cells #[.int .i64 a.n, .slice a.A a.rows.length a.cap, .int .i64 b.n, .slice b.A b.rows.length b.cap] 26)
  have r2 := RowT.new ((w.alloc (.cells #[.int .i64 a.n, .slice a.A a.rows.length a.cap] 26)).alloc (.cells #[.int .i64 b.n, .slice b.A b.rows.length b.cap] 26)) 26 [.int .i64 a.n, .slice a.A a.rows.length a.cap, .int .i64 b.n, .slice b.A b.rows.length b.cap]
  simp only [World.size_alloc] at r1 r2
  exact ⟨((RowT.new w 26 [.int .i64 a.n, .slice a.A a.rows.length a.cap]).alloc _).alloc _, r1, r2, below_three w _ _ _, ha.on (below_three w _ _ _), hb.on (below_three w _ _ _)⟩
end Go.Proofs.YtigdecmfieaacaaDoor
