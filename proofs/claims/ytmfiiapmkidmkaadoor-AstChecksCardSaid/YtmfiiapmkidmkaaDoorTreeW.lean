/-
  Trees gone through by two functions that carry a state, till one of them answers false.
-/
import Derived.Test.YtmfiiapmkidmkaaDoorTreeG
import Derived.Test.YtmfiiapmkidmkaaDoorDT
namespace Go.Proofs.YtmfiiapmkidmkaaDoor
open Go Go.RowKit

section
variable {σ : Type}
def andW (r : Bool × σ) (k : σ → Bool × σ) : Bool × σ := if r.1 = true then k r.2 else r
theorem andW_t (s : σ) (k : σ → Bool × σ) : andW (true, s) k = k s := rfl
theorem andW_f (s : σ) (k : σ → Bool × σ) : andW (false, s) k = (false, s) := rfl
mutual
def Ex.wk (f : Ex → Nat → σ → Bool × σ) : Ex → Nat → σ → Bool × σ
  | .mk o n m A c ks, d, s => andW (f (.mk o n m A c ks) d s) fun s => exsWk f ks (d + 1) s
def exsWk (f : Ex → Nat → σ → Bool × σ) : List Ex → Nat → σ → Bool × σ
  | [], _, s => (true, s)
  | x :: r, d, s => andW (x.wk f d s) fun s => exsWk f r d s
end
mutual
def Sm.wk (f : Ex → Nat → σ → Bool × σ) (g : Sm → Nat → σ → Bool × σ) : Sm → Nat → σ → Bool × σ
  | .mk k n l o A1 c1 es A2 c2 th A3 c3 el, d, s => andW (g (.mk k n l o A1 c1 es A2 c2 th A3 c3 el) d s) fun s => andW (andW (exsWk f es (d + 1) s) fun s => smsWk f g th (d + 1) s) fun s => smsWk f g el (d + 1) s
def smsWk (f : Ex → Nat → σ → Bool × σ) (g : Sm → Nat → σ → Bool × σ) : List Sm → Nat → σ → Bool × σ
  | [], _, s => (true, s)
  | x :: r, d, s => andW (x.wk f g d s) fun s => smsWk f g r d s
end
def walkW (f : Ex → Nat → σ → Bool × σ) (g : Sm → Nat → σ → Bool × σ) (es : List Ex) (ss : List Sm) (d : Nat) (s : σ) : Bool × σ := andW (exsWk f es d s) fun s => smsWk f g ss d s
def thsWk (f : Ex → Nat → σ → Bool × σ) (g : Sm → Nat → σ → Bool × σ) : List Th → σ → Bool × σ
  | [], s => (true, s)
  | t :: r, s => andW (smsWk f g t.l 1 s) fun s => thsWk f g r s
variable {f : Ex → Nat → σ → Bool × σ} {g : Sm → Nat → σ → Bool × σ} {es : List Ex} {ss : List Sm} {ts : List Th} {d i : Nat} {s s1 s2 s3 s4 : σ} {b : Bool} {W : Bool × σ} {x : Ex} {y : Sm} {t : Th}
theorem ex_wk (e : Ex) : e.wk f d s = andW (f e d s) fun s => exsWk f e.ks (d + 1) s := by cases e; rw [Ex.wk]; rfl
theorem sm_wk (e : Sm) : e.wk f g d s = andW (g e d s) fun s => andW (walkW f g e.es e.th (d + 1) s) fun s => smsWk f g e.el (d + 1) s := by cases e; rw [Sm.wk]; rfl
theorem walkW_e : walkW f g es [] d s = exsWk f es d s := by
  unfold walkW
  generalize exsWk f es d s = r
  obtain ⟨b, s'⟩ := r
  cases b <;> simp [andW, smsWk]
theorem walkW_s : walkW f g [] ss d s = smsWk f g ss d s := by unfold walkW; rw [exsWk]; rfl
theorem walkW_stop (h : exsWk f es d s = (false, s2)) : walkW f g es ss d s = (false, s2) := by unfold walkW; rw [h]; rfl
theorem walkW_go (h : exsWk f es d s = (true, s2)) : walkW f g es ss d s = smsWk f g ss d s2 := by unfold walkW; rw [h]; rfl
theorem exs_at (hx : es[i]? = some x) : exsWk f (es.drop i) d s = andW (x.wk f d s) fun s => exsWk f (es.drop (i + 1)) d s := by
  obtain ⟨hi, rfl⟩ := List.getElem?_eq_some_iff.1 hx
  rw [List.drop_eq_getElem_cons hi, exsWk]
theorem sms_at (hx : ss[i]? = some y) : smsWk f g (ss.drop i) d s = andW (y.wk f g d s) fun s => smsWk f g (ss.drop (i + 1)) d s := by
  obtain ⟨hi, rfl⟩ := List.getElem?_eq_some_iff.1 hx
  rw [List.drop_eq_getElem_cons hi, smsWk]
theorem ths_at (hx : ts[i]? = some t) : thsWk f g (ts.drop i) s = andW (smsWk f g t.l 1 s) fun s => thsWk f g (ts.drop (i + 1)) s := by
  obtain ⟨hi, rfl⟩ := List.getElem?_eq_some_iff.1 hx
  rw [List.drop_eq_getElem_cons hi, thsWk]
theorem exs_end (h : es.length ≤ i) : exsWk f (es.drop i) d s = (true, s) := by rw [List.drop_of_length_le h, exsWk]
theorem sms_end (h : ss.length ≤ i) : smsWk f g (ss.drop i) d s = (true, s) := by rw [List.drop_of_length_le h, smsWk]
theorem ths_end (h : ts.length ≤ i) : thsWk f g (ts.drop i) s = (true, s) := by rw [List.drop_of_length_le h, thsWk]
theorem exs_stop (hx : es[i]? = some x) (h1 : exsWk f (es.drop i) d s1 = W) (h2 : x.wk f d s1 = (false, s2)) : W = (false, s2) := by rw [← h1, exs_at hx, h2]; rfl
theorem exs_next (hx : es[i]? = some x) (h1 : exsWk f (es.drop i) d s1 = W) (h2 : x.wk f d s1 = (true, s2)) : exsWk f (es.drop (i + 1)) d s2 = W := by rw [← h1, exs_at hx, h2]; rfl
theorem sms_stop (hx : ss[i]? = some y) (h1 : smsWk f g (ss.drop i) d s1 = W) (h2 : y.wk f g d s1 = (false, s2)) : W = (false, s2) := by rw [← h1, sms_at hx, h2]; rfl
theorem sms_next (hx : ss[i]? = some y) (h1 : smsWk f g (ss.drop i) d s1 = W) (h2 : y.wk f g d s1 = (true, s2)) : smsWk f g (ss.drop (i + 1)) d s2 = W := by rw [← h1, sms_at hx, h2]; rfl
theorem ths_stop (hx : ts[i]? = some t) (h1 : thsWk f g (ts.drop i) s1 = W) (h2 : smsWk f g t.l 1 s1 = (false, s2)) : W = (false, s2) := by rw [← h1, ths_at hx, h2]; rfl
theorem ths_next (hx : ts[i]? = some t) (h1 : thsWk f g (ts.drop i) s1 = W) (h2 : smsWk f g t.l 1 s1 = (true, s2)) : thsWk f g (ts.drop (i + 1)) s2 = W := by rw [← h1, ths_at hx, h2]; rfl
theorem ex_stop1 (h : f x d s1 = (false, s2)) : x.wk f d s1 = (false, s2) := by rw [ex_wk, h]; rfl
theorem ex_kids (h : f x d s1 = (true, s2)) (h2 : exsWk f x.ks (d + 1) s2 = (b, s3)) : x.wk f d s1 = (b, s3) := by rw [ex_wk, h, andW_t, h2]
theorem sm_stop1 (h : g y d s1 = (false, s2)) : y.wk f g d s1 = (false, s2) := by rw [sm_wk, h]; rfl
theorem sm_th (h : g y d s1 = (true, s2)) (h2 : walkW f g y.es y.th (d + 1) s2 = (false, s3)) : y.wk f g d s1 = (false, s3) := by rw [sm_wk, h, andW_t, h2]; rfl
theorem sm_el (h : g y d s1 = (true, s2)) (h2 : walkW f g y.es y.th (d + 1) s2 = (true, s3)) (h3 : smsWk f g y.el (d + 1) s3 = (b, s4)) : y.wk f g d s1 = (b, s4) := by rw [sm_wk, h, andW_t, h2, andW_t, h3]
theorem bt_of {r : Bool} (h : (!r) = false) : r = true := by simpa using h
theorem bf_of {r : Bool} (h : (!r) = true) : r = false := by simpa using h
theorem pair_of {r r' : Bool} (h : (r, s1) = W) (e : r = r') : (r', s1) = W := by rw [← h, e]
end
theorem exsSz_drop {l : List Ex} {i : Nat} {x : Ex} (h : l[i]? = some x) : exsSz (l.drop i) = x.sz + exsSz (l.drop (i + 1)) := by
  obtain ⟨hi, rfl⟩ := List.getElem?_eq_some_iff.1 h
  rw [List.drop_eq_getElem_cons hi, exsSz]
theorem smsSz_drop {l : List Sm} {i : Nat} {x : Sm} (h : l[i]? = some x) : smsSz (l.drop i) = x.sz + smsSz (l.drop (i + 1)) := by
  obtain ⟨hi, rfl⟩ := List.getElem?_eq_some_iff.1 h
  rw [List.drop_eq_getElem_cons hi, smsSz]
theorem thsSz_drop {l : List Th} {i : Nat} {x : Th} (h : l[i]? = some x) : thsSz (l.drop i) = smsSz x.l + thsSz (l.drop (i + 1)) := by
  obtain ⟨hi, rfl⟩ := List.getElem?_eq_some_iff.1 h
  rw [List.drop_eq_getElem_cons hi]; rfl
theorem exsSz_end {l : List Ex} {i : Nat} (h : l.length ≤ i) : exsSz (l.drop i) = 0 := by rw [List.drop_of_length_le h, exsSz]
theorem smsSz_end {l : List Sm} {i : Nat} (h : l.length ≤ i) : smsSz (l.drop i) = 0 := by rw [List.drop_of_length_le h, smsSz]
theorem thsSz_end {l : List Th} {i : Nat} (h : l.length ≤ i) : thsSz (l.drop i) = 0 := by rw [List.drop_of_length_le h]; rfl
/-- What a function for expressions does, by what a walk knows of it. -/
structure StepE {σ : Type} (w0 : World) (G : σ → List It) (ok : Nat → σ → Prop) (f : Ex → Nat → σ → Bool × σ) (fe : FuncId) (ce : Array Value) : Prop where
  enters : Enters Tryd.prog fe
  call : ∀ (e : Ex) (d k : Nat) (s : σ) (F : List It) (w : World), Mem w0 w (G s ++ F) → ExAt w e → e.sh = true → d ≤ 1000000 → ok (k + 1) s → Calls Tryd.prog fe (#[.agg #[.int .i64 e.op, .int .i64 e.num, Str e.nm, .slice e.A e.ks.length e.c], .int .i64 ((d : Nat) : Int)] ++ ce) w (Gives w0 (fun r : Bool × σ => .bool r.1) (fun r => G r.2 ++ F) fun r => r = f e d s)
  ok : ∀ (e : Ex) (d k : Nat) (s : σ), ok (k + 1) s → (f e d s).1 = true → ok k (f e d s).2
structure StepS {σ : Type} (w0 : World) (G : σ → List It) (ok : Nat → σ → Prop) (g : Sm → Nat → σ → Bool × σ) (fs : FuncId) (cs : Array Value) : Prop where
  enters : Enters Tryd.prog fs
  call : ∀ (e : Sm) (d k : Nat) (s : σ) (F : List It) (w : World), Mem w0 w (G s ++ F) → SmAt w e → e.sh = true → d ≤ 1000000 → ok (k + 1) s → Calls Tryd.prog fs (#[.agg #[.int .i64 e.kind, Str e.nm, Str e.loc, .int .i64 e.ord, .slice e.A1 e.es.length e.c1, .slice e.A2 e.th.length e.c2, .slice e.A3 e.el.length e.c3], .int .i64 ((d : Nat) : Int)] ++ cs) w (Gives w0 (fun r : Bool × σ => .bool r.1) (fun r => G r.2 ++ F) fun r => r = g e d s)
  ok : ∀ (e : Sm) (d k : Nat) (s : σ), ok (k + 1) s → (g e d s).1 = true → ok k (g e d s).2
theorem ok_eq {σ : Type} {ok : Nat → σ → Prop} {n m : Nat} {s : σ} (h : ok n s) (e : n = m) : ok m s := e ▸ h
theorem StepE.next {σ : Type} {w0 : World} {G : σ → List It} {ok : Nat → σ → Prop} {f : Ex → Nat → σ → Bool × σ} {fe : FuncId} {ce : Array Value} (h : StepE w0 G ok f fe ce) {e : Ex} {d k n : Nat} {s s2 : σ} (hk : ok n s) (en : n = k + 1) (hr : f e d s = (true, s2)) : ok k s2 := by
  have := h.ok e d k s (ok_eq hk en) (by rw [hr])
  rw [hr] at this; exact this
theorem StepS.next {σ : Type} {w0 : World} {G : σ → List It} {ok : Nat → σ → Prop} {f : Sm → Nat → σ → Bool × σ} {fe : FuncId} {ce : Array Value} (h : StepS w0 G ok f fe ce) {e : Sm} {d k n : Nat} {s s2 : σ} (hk : ok n s) (en : n = k + 1) (hr : f e d s = (true, s2)) : ok k s2 := by
  have := h.ok e d k s (ok_eq hk en) (by rw [hr])
  rw [hr] at this; exact this
end Go.Proofs.YtmfiiapmkidmkaaDoor
