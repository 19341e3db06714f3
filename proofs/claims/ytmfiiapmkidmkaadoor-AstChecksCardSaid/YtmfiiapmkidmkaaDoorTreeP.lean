/-
  Trees that lie in rows of one's own; the chapter's program as a tree.
-/
import Derived.Test.YtmfiiapmkidmkaaDoorDR
import Derived.Test.YtmfiiapmkidmkaaDoorTreeE
namespace Go.Proofs.YtmfiiapmkidmkaaDoor
open Go Go.RowKit

theorem flat_at {α : Type} {f : α → List Value} {s : Nat} (hf : ∀ x, (f x).length = s) : ∀ {l : List α} {k : Nat} {x : α}, l[k]? = some x → ((l.flatMap f).drop (k * s)).take s = f x := by
  intro l
  induction l with
  | nil => intro k x h; simp at h
  | cons y r ih =>
    intro k x h
    rw [List.flatMap_cons]
    cases k with
    | zero => obtain rfl := Option.some.inj h; rw [Nat.zero_mul, List.drop_zero, ← hf y, List.take_left]
    | succ k =>
      rw [Nat.succ_mul, Nat.add_comm, ← List.drop_drop]
      have h2 : ((f y) ++ r.flatMap f).drop s = r.flatMap f := by rw [← hf y, List.drop_left]
      rw [h2]
      exact ih (by simpa using h)
theorem RowT.atCells {w : World} {b : Nat} {t : TypeId} {cs : List Value} (h : RowT w b t cs) (i m : Nat) : CellsAt w ((⟨b, 0, none⟩ : Addr).add i) ((cs.drop i).take m) := by
  rcases Nat.eq_zero_or_pos i with hi | hi
  · subst hi; exact h.cells 0 m
  · have h1 := (h.cells 0 cs.length).addA i m hi
    rw [List.drop_zero, List.take_length] at h1
    exact h1
theorem exs_row {w : World} {b : Nat} {l : List Ex} (h : RowT w b 36 (l.flatMap cE)) (hx : ∀ x ∈ l, ExAt w x) : ExsAt w (some ⟨b, 0, none⟩) l := by
  intro k x hk
  refine ⟨⟨_, rfl, ?_⟩, hx x (List.mem_of_getElem? hk)⟩
  exact (h.atCells (k * 4) 4).to (flat_at (f := cE) (s := 4) (fun _ => rfl) hk)
theorem sms_row {w : World} {b : Nat} {l : List Sm} (h : RowT w b 30 (l.flatMap cS)) (hx : ∀ x ∈ l, SmAt w x) : SmsAt w (some ⟨b, 0, none⟩) l := by
  intro k x hk
  refine ⟨⟨_, rfl, ?_⟩, hx x (List.mem_of_getElem? hk)⟩
  exact (h.atCells (k * 7) 7).to (flat_at (f := cS) (s := 7) (fun _ => rfl) hk)
theorem exs_nil (w : World) (A : Option Addr) : ExsAt w A [] := fun k x hx => by simp at hx
theorem sms_nil (w : World) (A : Option Addr) : SmsAt w A [] := fun k x hx => by simp at hx
theorem ex_node {w : World} {e : Ex} (hn : e.nm.length ≤ 65536) (hk : e.ks.length ≤ 65536) (h : ExsAt w e.A e.ks) : ExAt w e := .mk e ⟨by omega, by omega⟩ (fun k x hx => (h k x hx).1) fun k x hx => (h k x hx).2
theorem sm_node {w : World} {s : Sm} (hn : s.nm.length ≤ 65536 ∧ s.loc.length ≤ 65536 ∧ s.es.length ≤ 65536 ∧ s.th.length ≤ 65536 ∧ s.el.length ≤ 65536) (h1 : ExsAt w s.A1 s.es) (h2 : SmsAt w s.A2 s.th) (h3 : SmsAt w s.A3 s.el) : SmAt w s :=
  .mk s (by omega) h1 (fun k x hx => (h2 k x hx).1) (fun k x hx => (h2 k x hx).2) (fun k x hx => (h3 k x hx).1) fun k x hx => (h3 k x hx).2
/-- r, and 1. -/
def exR0 : Ex := .mk 2 0 [114] none 0 []
def ex10 : Ex := .mk 1 1 [] none 0 []
def exOp (op : Int) (b : Nat) : Ex := .mk op 0 [] (some ⟨b, 0, none⟩) 2 [exR0, ex10]
def st1 (A : Option Addr) (c : Nat) (els : List Sm) : Sm := .mk 2 [114] [120] 3 none 0 [] none 0 [] A c els
def stSt (k1 e1 : Nat) : Sm := .mk 3 [] [120] 4 (some ⟨e1, 0, none⟩) 1 [exOp 14 k1] none 0 [] none 0 []
def stIf (k1 e1 s1 k2 e2 : Nat) : Sm := .mk 10 [] [] 0 (some ⟨e2, 0, none⟩) 1 [exOp 7 k2] (some ⟨s1, 0, none⟩) 1 [stSt k1 e1] none 0 []
def pgT (k1 e1 s1 d0 k2 e2 s0 t0 : Nat) (A : Option Addr) (c : Nat) (els : List Sm) : Pg := { A1 := some ⟨d0, 0, none⟩, c1 := 1, ds := [⟨[120], false, 0⟩], A2 := some ⟨t0, 0, none⟩, c2 := 1, ts := [⟨some ⟨s0, 0, none⟩, 2, [st1 A c els, stIf k1 e1 s1 k2 e2]⟩] }
theorem exOp_at {w : World} {op : Int} {b : Nat} (h : RowT w b 36 ([exR0, ex10].flatMap cE)) : ExAt w (exOp op b) :=
  ex_node (show ([] : List UInt8).length ≤ _ by decide) (show [exR0, ex10].length ≤ _ by decide) (exs_row h fun x hx => by
    rcases List.mem_cons.1 hx with rfl | hx
    · exact ex_node (show [(114 : UInt8)].length ≤ _ by decide) (show ([] : List Ex).length ≤ _ by decide) (exs_nil _ _)
    · obtain rfl := List.mem_singleton.1 hx
      exact ex_node (show ([] : List UInt8).length ≤ _ by decide) (show ([] : List Ex).length ≤ _ by decide) (exs_nil _ _))
theorem pages_at {w : World} {k1 e1 s1 d0 k2 e2 s0 t0 : Nat} {A : Option Addr} {c : Nat} {els : List Sm} (h1 : RowT w k1 36 ([exR0, ex10].flatMap cE)) (h2 : RowT w e1 36 ([exOp 14 k1].flatMap cE)) (h3 : RowT w s1 30 ([stSt k1 e1].flatMap cS)) (h4 : RowT w d0 45 [Str [120], .bool false, .int .i64 0])
    (h5 : RowT w k2 36 ([exR0, ex10].flatMap cE)) (h6 : RowT w e2 36 ([exOp 7 k2].flatMap cE)) (h7 : RowT w s0 30 ([st1 A c els, stIf k1 e1 s1 k2 e2].flatMap cS)) (h8 : RowT w t0 28 [.slice (some ⟨s0, 0, none⟩) 2 2]) (hel : els.length ≤ 65536) (h9 : SmsAt w A els) : PgAt w (pgT k1 e1 s1 d0 k2 e2 s0 t0 A c els) := by
  have hst : SmAt w (stSt k1 e1) := sm_node ⟨Nat.zero_le _, (show 1 ≤ 65536 by decide), (show 1 ≤ 65536 by decide), Nat.zero_le _, Nat.zero_le _⟩ (exs_row h2 fun x hx => by obtain rfl := List.mem_singleton.1 hx; exact exOp_at h1) (sms_nil _ _) (sms_nil _ _)
  have hif : SmAt w (stIf k1 e1 s1 k2 e2) := sm_node ⟨Nat.zero_le _, Nat.zero_le _, (show 1 ≤ 65536 by decide), (show 1 ≤ 65536 by decide), Nat.zero_le _⟩ (exs_row h6 fun x hx => by obtain rfl := List.mem_singleton.1 hx; exact exOp_at h5) (sms_row h3 fun x hx => by obtain rfl := List.mem_singleton.1 hx; exact hst) (sms_nil _ _)
  have hs1 : SmAt w (st1 A c els) := sm_node ⟨(show 1 ≤ 65536 by decide), (show 1 ≤ 65536 by decide), Nat.zero_le _, Nat.zero_le _, hel⟩ (exs_nil _ _) (sms_nil _ _) h9
  refine ⟨fun k d hd => ?_, fun k t ht => ?_, (show 1 ≤ 9223372036854775807 by decide), (show 1 ≤ 9223372036854775807 by decide)⟩
  · cases k with
    | zero =>
      obtain rfl := Option.some.inj hd
      exact ⟨⟨_, rfl, h4.atCells 0 3⟩, (show 1 ≤ 9223372036854775807 by decide)⟩
    | succ k => simp [pgT] at hd
  · cases k with
    | zero =>
      obtain rfl := Option.some.inj ht
      refine ⟨⟨_, rfl, h8.atCells 0 1⟩, sms_row h7 fun x hx => ?_, (show 2 ≤ 9223372036854775807 by decide)⟩
      rcases List.mem_cons.1 hx with rfl | hx
      · exact hs1
      · obtain rfl := List.mem_singleton.1 hx; exact hif
    | succ k => simp [pgT] at ht
theorem own_at {α : Type} {base : Nat} {w : World} {e : TypeId} {A : Option Addr} {q c n : Nat} {f : α → Value} {l : List α} (h : w.ownsRow base e 1 (.slice A q c) n (l.map f)) : HandAt w A (fun x => [f x]) 1 l := by
  obtain ⟨A', c', e', _, hH, _⟩ := own_hand h
  injection e' with e1
  subst e1; exact hH
end Go.Proofs.YtmfiiapmkidmkaaDoor
