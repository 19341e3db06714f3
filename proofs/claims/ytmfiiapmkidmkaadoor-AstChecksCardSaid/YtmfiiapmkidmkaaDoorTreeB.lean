/-
  Programs as trees in memory: what is read of statements.
-/
import Derived.Test.YtmfiiapmkidmkaaDoorTreeA
namespace Go.Proofs.YtmfiiapmkidmkaaDoor
open Go Go.RowKit

/-- A statement, and where its parts lie. -/
inductive Sm where
  | mk (kind : Int) (nm loc : List UInt8) (ord : Int) (A1 : Option Addr) (c1 : Nat) (es : List Ex) (A2 : Option Addr) (c2 : Nat) (th : List Sm) (A3 : Option Addr) (c3 : Nat) (el : List Sm)
namespace Sm
def kind : Sm → Int | .mk x _ _ _ _ _ _ _ _ _ _ _ _ => x
def nm : Sm → List UInt8 | .mk _ x _ _ _ _ _ _ _ _ _ _ _ => x
def loc : Sm → List UInt8 | .mk _ _ x _ _ _ _ _ _ _ _ _ _ => x
def ord : Sm → Int | .mk _ _ _ x _ _ _ _ _ _ _ _ _ => x
def A1 : Sm → Option Addr | .mk _ _ _ _ x _ _ _ _ _ _ _ _ => x
def c1 : Sm → Nat | .mk _ _ _ _ _ x _ _ _ _ _ _ _ => x
def es : Sm → List Ex | .mk _ _ _ _ _ _ x _ _ _ _ _ _ => x
def A2 : Sm → Option Addr | .mk _ _ _ _ _ _ _ x _ _ _ _ _ => x
def c2 : Sm → Nat | .mk _ _ _ _ _ _ _ _ x _ _ _ _ => x
def th : Sm → List Sm | .mk _ _ _ _ _ _ _ _ _ x _ _ _ => x
def A3 : Sm → Option Addr | .mk _ _ _ _ _ _ _ _ _ _ x _ _ => x
def c3 : Sm → Nat | .mk _ _ _ _ _ _ _ _ _ _ _ x _ => x
def el : Sm → List Sm | .mk _ _ _ _ _ _ _ _ _ _ _ _ x => x
end Sm
abbrev cS (s : Sm) : List Value := [.int .i64 s.kind, Str s.nm, Str s.loc, .int .i64 s.ord, .slice s.A1 s.es.length s.c1, .slice s.A2 s.th.length s.c2, .slice s.A3 s.el.length s.c3]
theorem th_lt {s x : Sm} (h : x ∈ s.th) : SizeOf.sizeOf x < SizeOf.sizeOf s := by
  cases s with
  | mk k n l o A1 c1 es A2 c2 th A3 c3 el =>
    have := List.sizeOf_lt_of_mem (show x ∈ th from h)
    simp; omega
theorem el_lt {s x : Sm} (h : x ∈ s.el) : SizeOf.sizeOf x < SizeOf.sizeOf s := by
  cases s with
  | mk k n l o A1 c1 es A2 c2 th A3 c3 el =>
    have := List.sizeOf_lt_of_mem (show x ∈ el from h)
    simp; omega
inductive SmAt (w : World) : Sm → Prop
  | mk (s : Sm) (hn : s.nm.length ≤ 9223372036854775807 ∧ s.loc.length ≤ 9223372036854775807 ∧ s.es.length ≤ 9223372036854775807 ∧ s.th.length ≤ 9223372036854775807 ∧ s.el.length ≤ 9223372036854775807) (he : ExsAt w s.A1 s.es)
    (ht : ∀ (k : Nat) (x : Sm), s.th[k]? = some x → ∃ a, s.A2 = some a ∧ CellsAt w (a.add (k * 7)) (cS x)) (ht2 : ∀ (k : Nat) (x : Sm), s.th[k]? = some x → SmAt w x)
    (hl : ∀ (k : Nat) (x : Sm), s.el[k]? = some x → ∃ a, s.A3 = some a ∧ CellsAt w (a.add (k * 7)) (cS x)) (hl2 : ∀ (k : Nat) (x : Sm), s.el[k]? = some x → SmAt w x) : SmAt w s
def SmsAt (w : World) (A : Option Addr) (l : List Sm) : Prop := ∀ (k : Nat) (x : Sm), l[k]? = some x → (∃ a, A = some a ∧ CellsAt w (a.add (k * 7)) (cS x)) ∧ SmAt w x
theorem SmAt.exprs {w : World} {s : Sm} (h : SmAt w s) : ExsAt w s.A1 s.es := by
  cases h with
  | mk _ _ he _ _ _ _ => exact he
theorem SmAt.len {w : World} {s : Sm} (h : SmAt w s) : s.nm.length ≤ 9223372036854775807 ∧ s.loc.length ≤ 9223372036854775807 ∧ s.es.length ≤ 9223372036854775807 ∧ s.th.length ≤ 9223372036854775807 ∧ s.el.length ≤ 9223372036854775807 := by
  cases h with
  | mk _ h _ _ _ _ _ => exact h
theorem SmAt.thn {w : World} {s : Sm} (h : SmAt w s) : SmsAt w s.A2 s.th := by
  cases h with
  | mk _ _ _ h1 h2 _ _ => exact fun k x hx => ⟨h1 k x hx, h2 k x hx⟩
theorem SmAt.els {w : World} {s : Sm} (h : SmAt w s) : SmsAt w s.A3 s.el := by
  cases h with
  | mk _ _ _ _ _ h1 h2 => exact fun k x hx => ⟨h1 k x hx, h2 k x hx⟩
theorem SmAt.on {w w' : World} {s : Sm} (h : SmAt w s) (hb : Below w.heap.size w w') : SmAt w' s := by
  induction h with
  | mk s hn he h1 h2 h3 h4 ih1 ih2 => exact .mk s hn (he.on hb) (fun k x hx => (by obtain ⟨a, e1, e2⟩ := h1 k x hx; exact ⟨a, e1, e2.on hb⟩)) ih1 (fun k x hx => (by obtain ⟨a, e1, e2⟩ := h3 k x hx; exact ⟨a, e1, e2.on hb⟩)) ih2
theorem SmsAt.on {w w' : World} {A : Option Addr} {l : List Sm} (h : SmsAt w A l) (hb : Below w.heap.size w w') : SmsAt w' A l := fun k x hx => (by
  obtain ⟨⟨a, e1, e2⟩, e3⟩ := h k x hx
  exact ⟨⟨a, e1, e2.on hb⟩, e3.on hb⟩)
/-- Strong induction over lists of statements. -/
theorem sms_rec {p : List Sm → Prop} (h : ∀ l, (∀ s ∈ l, p s.th ∧ p s.el) → p l) (l : List Sm) : p l := by
  have key : ∀ (n : Nat) (s : Sm), SizeOf.sizeOf s < n → p s.th ∧ p s.el := by
    intro n
    induction n with
    | zero => intro s hs; omega
    | succ n ih => intro s hs; exact ⟨h s.th fun x hx => ih x (by have := th_lt hx; omega), h s.el fun x hx => ih x (by have := el_lt hx; omega)⟩
  exact h l fun s _ => key _ s (Nat.lt_succ_self _)
mutual
/-- How many expressions and statements it has. -/
def Sm.sz : Sm → Nat
  | .mk _ _ _ _ _ _ es _ _ th _ _ el => exsSz es + smsSz th + smsSz el + 1
def smsSz : List Sm → Nat
  | [] => 0
  | x :: r => x.sz + smsSz r
end
mutual
/-- How deep it is nested. -/
def Sm.dp : Sm → Nat
  | .mk _ _ _ _ _ _ es _ _ th _ _ el => max (max (smsDp th) (smsDp el)) (exsDp es) + 1
def smsDp : List Sm → Nat
  | [] => 0
  | x :: r => max x.dp (smsDp r)
end
mutual
/-- How many statements are of a kind. -/
def Sm.ct (k : Int) : Sm → Nat
  | .mk q _ _ _ _ _ _ _ _ th _ _ el => (if q = k then 1 else 0) + smsCt k th + smsCt k el
def smsCt (k : Int) : List Sm → Nat
  | [] => 0
  | x :: r => x.ct k + smsCt k r
end
theorem sm_sz (s : Sm) : s.sz = exsSz s.es + smsSz s.th + smsSz s.el + 1 := by cases s; rw [Sm.sz]; rfl
theorem sm_dp (s : Sm) : s.dp = max (max (smsDp s.th) (smsDp s.el)) (exsDp s.es) + 1 := by cases s; rw [Sm.dp]; rfl
theorem sm_ct (k : Int) (s : Sm) : s.ct k = (if s.kind = k then 1 else 0) + smsCt k s.th + smsCt k s.el := by cases s; rw [Sm.ct]; rfl
theorem smsSz_take {l : List Sm} {i : Nat} {x : Sm} (h : l[i]? = some x) : smsSz (l.take (i + 1)) = smsSz (l.take i) + x.sz := by
  induction l generalizing i with
  | nil => simp at h
  | cons y r ih =>
    cases i with
    | zero => obtain rfl := Option.some.inj h; simp [smsSz]
    | succ i => have := ih (i := i) (by simpa using h); simp only [List.take_succ_cons, smsSz]; omega
theorem smsDp_take {l : List Sm} {i : Nat} {x : Sm} (h : l[i]? = some x) : smsDp (l.take (i + 1)) = max (smsDp (l.take i)) x.dp := by
  induction l generalizing i with
  | nil => simp at h
  | cons y r ih =>
    cases i with
    | zero => obtain rfl := Option.some.inj h; simp [smsDp]
    | succ i => have := ih (i := i) (by simpa using h); simp only [List.take_succ_cons, smsDp]; omega
theorem smsCt_take {k : Int} {l : List Sm} {i : Nat} {x : Sm} (h : l[i]? = some x) : smsCt k (l.take (i + 1)) = smsCt k (l.take i) + x.ct k := by
  induction l generalizing i with
  | nil => simp at h
  | cons y r ih =>
    cases i with
    | zero => obtain rfl := Option.some.inj h; simp [smsCt]
    | succ i => have := ih (i := i) (by simpa using h); simp only [List.take_succ_cons, smsCt]; omega
theorem smsSz_le {l : List Sm} {i : Nat} : smsSz (l.take i) ≤ smsSz l := by
  induction l generalizing i with
  | nil => simp
  | cons y r ih =>
    cases i with
    | zero => simp [smsSz]
    | succ i => have := ih (i := i); simp only [List.take_succ_cons, smsSz]; omega
theorem smsSz_mem {l : List Sm} {x : Sm} (h : x ∈ l) : x.sz ≤ smsSz l := by
  induction l with
  | nil => cases h
  | cons y r ih =>
    rcases List.mem_cons.1 h with rfl | h
    · simp only [smsSz]; omega
    · have := ih h; simp only [smsSz]; omega
theorem smsSz_len (l : List Sm) : l.length ≤ smsSz l := by
  induction l with
  | nil => exact Nat.zero_le _
  | cons y r ih => have := sm_sz y; simp only [smsSz, List.length_cons]; omega
theorem exsDp_sz (l : List Ex) : exsDp l ≤ exsSz l := by
  induction l with
  | nil => exact Nat.le_refl _
  | cons y r ih => have := dp_sz y; simp only [exsDp, exsSz]; omega
theorem smsDp_sz (l : List Sm) : smsDp l ≤ smsSz l := by
  induction l using sms_rec with
  | h l ih =>
    induction l with
    | nil => exact Nat.le_refl _
    | cons y r ih2 =>
      have h1 := ih2 fun s hs => ih s (List.mem_cons_of_mem _ hs)
      obtain ⟨h2, h3⟩ := ih y List.mem_cons_self
      have h4 := exsDp_sz y.es
      have h5 := sm_dp y
      have h6 := sm_sz y
      simp only [smsDp, smsSz]; omega
mutual
/-- What is left of some weight behind a statement (it stops where nothing is left). -/
def Sm.hf : Sm → Int → Int
  | .mk _ m o _ _ _ es _ _ th _ _ el, l =>
    let l1 := exsHf es (l - 1 - ((m.length / 20 : Nat) : Int) - ((o.length / 20 : Nat) : Int))
    let l2 := if 0 ≤ l1 then smsHf th l1 else l1
    if 0 ≤ l2 then smsHf el l2 else l2
def smsHf : List Sm → Int → Int
  | [], l => l
  | x :: r, l => if l < 0 then l else smsHf r (x.hf l)
end
def smHf1 (s : Sm) (l : Int) : Int := exsHf s.es (l - 1 - ((s.nm.length / 20 : Nat) : Int) - ((s.loc.length / 20 : Nat) : Int))
def smHf2 (s : Sm) (l : Int) : Int := if 0 ≤ smHf1 s l then smsHf s.th (smHf1 s l) else smHf1 s l
theorem sm_hf (s : Sm) (l : Int) : s.hf l = if 0 ≤ smHf2 s l then smsHf s.el (smHf2 s l) else smHf2 s l := by cases s; rw [Sm.hf]; rfl
theorem smsHf_step {ks : List Sm} {i : Nat} {x : Sm} {l : Int} (h : ks[i]? = some x) (hl : 0 ≤ l) : smsHf (ks.drop i) l = smsHf (ks.drop (i + 1)) (x.hf l) := by
  obtain ⟨hi, rfl⟩ := List.getElem?_eq_some_iff.1 h
  rw [List.drop_eq_getElem_cons hi, smsHf, if_neg (by omega)]
theorem smsHf_neg (ks : List Sm) {l : Int} (h : l < 0) : smsHf ks l = l := by
  cases ks with
  | nil => rw [smsHf]
  | cons x r => rw [smsHf, if_pos h]
theorem exsHf_sz (l : List Ex) : ∀ n : Int, 0 ≤ exsHf l n → exsHf l n + exsSz l ≤ n := by
  induction l with
  | nil => intro n _; rw [exsHf, exsSz]; omega
  | cons x r ih =>
    intro n h0
    rw [exsHf] at h0 ⊢
    split at h0
    · omega
    · rename_i hl
      rw [if_neg hl, exsSz]
      have h1 := ih _ h0
      have h2 := hf_sz x n (by omega)
      omega
theorem smsHf_sz (l : List Sm) : ∀ n : Int, 0 ≤ smsHf l n → smsHf l n + smsSz l ≤ n := by
  induction l using sms_rec with
  | h l ih =>
    induction l with
    | nil => intro n _; rw [smsHf, smsSz]; omega
    | cons y r ih2 =>
      intro n h0
      rw [smsHf] at h0 ⊢
      split at h0
      · omega
      · rename_i hl
        rw [if_neg hl, smsSz]
        have h1 := ih2 (fun s hs => ih s (List.mem_cons_of_mem _ hs)) _ h0
        obtain ⟨h2, h3⟩ := ih y List.mem_cons_self
        have h4 : 0 ≤ y.hf n := by omega
        have h5 : y.hf n + y.sz ≤ n := by
          rw [sm_hf] at h4 ⊢
          split at h4
          · rename_i g2
            rw [if_pos g2]
            have k3 := h3 _ h4
            unfold smHf2 at g2 k3 ⊢
            split at g2
            · rename_i g1
              rw [if_pos g1] at k3 ⊢
              have k2 := h2 _ g2
              unfold smHf1 at g1 k2 k3 ⊢
              have k1 := exsHf_sz y.es _ g1
              rw [sm_sz]; omega
            · omega
          · omega
        omega
end Go.Proofs.YtmfiiapmkidmkaaDoor
