/-
  What the walks come to: sizes, depths, limits, what may be.
-/
import Derived.Test.YtmfiiapmkidmkaaDoorTreeW
import Derived.Test.YtmfiiapmkidmkaaDoorTreeF
namespace Go.Proofs.YtmfiiapmkidmkaaDoor
open Go Go.RowKit

def sizeD (_d : Nat) (n : Nat) : Bool × Nat := (true, n + 1)
def deepD (d : Nat) (n : Nat) : Bool × Nat := (true, max n d)
def limD (d : Nat) (n : Nat) : Bool × Nat := (decide ((((n + 1 : Nat) : Int) : Int) ≤ 2000) && decide ((((d : Nat) : Int) : Int) ≤ 32), n + 1)
def mayE (e : Ex) (_d : Nat) (_u : Unit) : Bool × Unit := (!(exBad e), ())
def mayS (s : Sm) (_d : Nat) (_u : Unit) : Bool × Unit := (!(smBad1 s) && !(smBad2 s), ())
def okN (k n : Nat) : Prop := n + k ≤ 1000000
def okU {σ : Type} (_k : Nat) (_n : σ) : Prop := True
theorem size_ex (e : Ex) : ∀ d n, e.wk (fun _ => sizeD) d n = (true, n + e.sz) := by
  induction e using Ex.rec_on with
  | h e ih =>
    intro d n
    rw [ex_wk, sz_eq]
    show andW (true, n + 1) _ = _
    rw [andW_t]
    have key : ∀ (l : List Ex) (d n : Nat), (∀ x ∈ l, ∀ d n, x.wk (fun _ => sizeD) d n = (true, n + x.sz)) → exsWk (fun _ => sizeD) l d n = (true, n + exsSz l) := by
      intro l
      induction l with
      | nil => intro d n _; rw [exsWk, exsSz]; rfl
      | cons x r ih2 =>
        intro d n hx
        rw [exsWk, hx x List.mem_cons_self, andW_t, ih2 _ _ (fun y hy => hx y (List.mem_cons_of_mem _ hy)), exsSz, Nat.add_assoc]
    rw [key e.ks _ _ ih, show n + 1 + exsSz e.ks = n + (exsSz e.ks + 1) by omega]
theorem size_exs (l : List Ex) (d n : Nat) : exsWk (fun _ => sizeD) l d n = (true, n + exsSz l) := by
  induction l generalizing n with
  | nil => rw [exsWk, exsSz]; rfl
  | cons x r ih => rw [exsWk, size_ex, andW_t, ih, exsSz, Nat.add_assoc]
theorem size_sms (l : List Sm) : ∀ d n, smsWk (fun _ => sizeD) (fun _ => sizeD) l d n = (true, n + smsSz l) := by
  induction l using sms_rec with
  | h l ih =>
    induction l with
    | nil => intro d n; rw [smsWk, smsSz]; rfl
    | cons y r ih2 =>
      intro d n
      obtain ⟨h1, h2⟩ := ih y List.mem_cons_self
      rw [smsWk, sm_wk]
      show andW (andW (true, n + 1) _) _ = _
      rw [andW_t, walkW_go (size_exs _ _ _), h1, andW_t, h2, andW_t, ih2 (fun s hs => ih s (List.mem_cons_of_mem _ hs)), smsSz, sm_sz]
      exact congrArg (Prod.mk true) (by omega)
theorem size_ths (l : List Th) (n : Nat) : thsWk (fun _ => sizeD) (fun _ => sizeD) l n = (true, n + thsSz l) := by
  induction l generalizing n with
  | nil => rw [thsWk]; rfl
  | cons t r ih =>
    rw [thsWk, size_sms, andW_t, ih]
    have h2 : thsSz (t :: r) = smsSz t.l + thsSz r := by unfold thsSz; simp
    rw [h2, Nat.add_assoc]
theorem deep_ex (e : Ex) : ∀ d n, d ≤ n + 1 → 1 ≤ d → e.wk (fun _ => deepD) d n = (true, max n (d - 1 + e.dp)) := by
  induction e using Ex.rec_on with
  | h e ih =>
    intro d n hd hd1
    rw [ex_wk, dp_eq]
    show andW (true, max n d) _ = _
    rw [andW_t]
    have key : ∀ (l : List Ex) (d n : Nat), (∀ x ∈ l, ∀ d n, d ≤ n + 1 → 1 ≤ d → x.wk (fun _ => deepD) d n = (true, max n (d - 1 + x.dp))) → d ≤ n + 1 → 1 ≤ d → exsWk (fun _ => deepD) l d n = (true, max n (d - 1 + exsDp l)) := by
      intro l
      induction l with
      | nil => intro d n _ h1 h2; rw [exsWk, exsDp]; exact congrArg (Prod.mk true) (by omega)
      | cons x r ih2 =>
        intro d n hx h1 h2
        rw [exsWk, hx x List.mem_cons_self _ _ h1 h2, andW_t, ih2 _ _ (fun y hy => hx y (List.mem_cons_of_mem _ hy)) (by omega) h2, exsDp]
        exact congrArg (Prod.mk true) (by omega)
    rw [key e.ks _ _ ih (by omega) (by omega)]
    exact congrArg (Prod.mk true) (by omega)
theorem deep_exs (l : List Ex) (d n : Nat) (h1 : d ≤ n + 1) (h2 : 1 ≤ d) : exsWk (fun _ => deepD) l d n = (true, max n (d - 1 + exsDp l)) := by
  induction l generalizing n with
  | nil => rw [exsWk, exsDp]; exact congrArg (Prod.mk true) (by omega)
  | cons x r ih => rw [exsWk, deep_ex x _ _ h1 h2, andW_t, ih _ (by omega), exsDp]; exact congrArg (Prod.mk true) (by omega)
theorem deep_sms (l : List Sm) : ∀ d n, d ≤ n + 1 → 1 ≤ d → smsWk (fun _ => deepD) (fun _ => deepD) l d n = (true, max n (d - 1 + smsDp l)) := by
  induction l using sms_rec with
  | h l ih =>
    induction l with
    | nil => intro d n h1 h2; rw [smsWk, smsDp]; exact congrArg (Prod.mk true) (by omega)
    | cons y r ih2 =>
      intro d n hd hd1
      obtain ⟨h1, h2⟩ := ih y List.mem_cons_self
      rw [smsWk, sm_wk]
      show andW (andW (true, max n d) _) _ = _
      rw [andW_t, walkW_go (deep_exs _ _ _ (by omega) (by omega)), h1 _ _ (by omega) (by omega), andW_t, h2 _ _ (by omega) (by omega), andW_t, ih2 (fun s hs => ih s (List.mem_cons_of_mem _ hs)) _ _ (by omega) hd1, smsDp, sm_dp]
      exact congrArg (Prod.mk true) (by omega)
theorem deep_ths (l : List Th) (n : Nat) : thsWk (fun _ => deepD) (fun _ => deepD) l n = (true, max n (thsDp l)) := by
  induction l generalizing n with
  | nil => rw [thsWk, thsDp, Nat.max_zero]
  | cons t r ih => rw [thsWk, deep_sms _ _ _ (by omega) (by omega), andW_t, ih, thsDp]; exact congrArg (Prod.mk true) (by omega)
/-- Within the limits, from n on, at depth d. -/
def inLim (r : Bool × Nat) (sz dp d n : Nat) : Prop := (r.1 = true ↔ n + sz ≤ 2000 ∧ d + dp ≤ 33) ∧ (r.1 = true → r.2 = n + sz)
theorem inLim_seq {r : Bool × Nat} {k : Nat → Bool × Nat} {z1 p1 z2 p2 d n : Nat} (h1 : inLim r z1 p1 d n) (h2 : n + z1 ≤ 2000 → inLim (k (n + z1)) z2 p2 d (n + z1)) : inLim (andW r k) (z1 + z2) (max p1 p2) d n := by
  obtain ⟨b, s⟩ := r
  obtain ⟨h3, h4⟩ := h1
  cases b with
  | false =>
    rw [andW_f]
    refine ⟨⟨fun h => (by cases h), fun h => ?_⟩, fun h => (by cases h)⟩
    exact h3.2 ⟨by omega, by omega⟩
  | true =>
    have e : s = n + z1 := h4 rfl
    have g := h3.1 rfl
    subst e
    rw [andW_t]
    obtain ⟨h5, h6⟩ := h2 g.1
    exact ⟨⟨fun h => by have := h5.1 h; omega, fun h => h5.2 (by omega)⟩, fun h => by rw [h6 h]; omega⟩
theorem inLim_nil {d n : Nat} (h1 : n ≤ 2000) (h2 : d ≤ 33) : inLim (true, n) 0 0 d n := ⟨⟨fun _ => ⟨by omega, by omega⟩, fun _ => rfl⟩, fun _ => rfl⟩
theorem inLim_node {k : Nat → Bool × Nat} {z p d n : Nat} (h : n + 1 ≤ 2000 → d + 1 ≤ 33 → inLim (k (n + 1)) z p (d + 1) (n + 1)) : inLim (andW (limD d n) k) (z + 1) (p + 1) d n := by
  unfold limD
  by_cases hn : n + 1 ≤ 2000
  · by_cases hd : d ≤ 32
    · rw [decide_eq_true (show ((n + 1 : Nat) : Int) ≤ 2000 by omega), decide_eq_true (show ((d : Nat) : Int) ≤ 32 by omega)]
      show inLim (andW (true, n + 1) k) _ _ _ _
      rw [andW_t]
      obtain ⟨h5, h6⟩ := h hn (by omega)
      exact ⟨⟨fun h => by have := h5.1 h; omega, fun h => h5.2 (by omega)⟩, fun h => by rw [h6 h]; omega⟩
    · rw [decide_eq_false (show ¬ ((d : Nat) : Int) ≤ 32 by omega), Bool.and_false]
      rw [andW_f]
      exact ⟨⟨fun h => (by cases h), fun h => (by omega)⟩, fun h => (by cases h)⟩
  · rw [decide_eq_false (show ¬ ((n + 1 : Nat) : Int) ≤ 2000 by omega), Bool.false_and]
    rw [andW_f]
    exact ⟨⟨fun h => (by cases h), fun h => (by omega)⟩, fun h => (by cases h)⟩
theorem lim_exs_of (l : List Ex) (h : ∀ x ∈ l, ∀ d n, inLim (x.wk (fun _ => limD) d n) x.sz x.dp d n) (d n : Nat) (hn : n ≤ 2000) (hd : d ≤ 33) : inLim (exsWk (fun _ => limD) l d n) (exsSz l) (exsDp l) d n := by
  induction l generalizing n with
  | nil => rw [exsWk, exsSz, exsDp]; exact inLim_nil hn hd
  | cons x r ih =>
    rw [exsWk, exsSz, exsDp]
    exact inLim_seq (h x List.mem_cons_self d n) fun h2 => ih (fun y hy => h y (List.mem_cons_of_mem _ hy)) _ h2
theorem lim_ex (e : Ex) : ∀ d n, inLim (e.wk (fun _ => limD) d n) e.sz e.dp d n := by
  induction e using Ex.rec_on with
  | h e ih =>
    intro d n
    rw [ex_wk, sz_eq, dp_eq]
    exact inLim_node fun h1 h2 => lim_exs_of e.ks ih _ _ h1 h2
theorem lim_exs (l : List Ex) (d n : Nat) (hn : n ≤ 2000) (hd : d ≤ 33) : inLim (exsWk (fun _ => limD) l d n) (exsSz l) (exsDp l) d n := lim_exs_of l (fun x _ => lim_ex x) d n hn hd
theorem lim_sms (l : List Sm) : ∀ d n, n ≤ 2000 → d ≤ 33 → inLim (smsWk (fun _ => limD) (fun _ => limD) l d n) (smsSz l) (smsDp l) d n := by
  induction l using sms_rec with
  | h l ih =>
    induction l with
    | nil => intro d n hn hd; rw [smsWk, smsSz, smsDp]; exact inLim_nil hn hd
    | cons y r ih2 =>
      intro d n hn hd
      obtain ⟨h1, h2⟩ := ih y List.mem_cons_self
      rw [smsWk, smsSz, smsDp]
      refine inLim_seq ?_ fun h3 => ih2 (fun s hs => ih s (List.mem_cons_of_mem _ hs)) _ _ h3 hd
      rw [sm_wk, sm_sz, sm_dp]
      rw [show max (max (smsDp y.th) (smsDp y.el)) (exsDp y.es) = max (max (exsDp y.es) (smsDp y.th)) (smsDp y.el) by omega]
      refine inLim_node fun h4 h5 => ?_
      refine inLim_seq ?_ fun h6 => h2 _ _ h6 h5
      unfold walkW
      exact inLim_seq (lim_exs _ _ _ h4 h5) fun h6 => h1 _ _ h6 h5
theorem lim_ths (l : List Th) : ∀ n, n ≤ 2000 → inLim (thsWk (fun _ => limD) (fun _ => limD) l n) (thsSz l) (thsDp l) 1 n := by
  induction l with
  | nil => intro n hn; rw [thsWk, thsDp]; exact inLim_nil hn (by omega)
  | cons t r ih =>
    intro n hn
    have h2 : thsSz (t :: r) = smsSz t.l + thsSz r := by unfold thsSz; simp
    rw [thsWk, h2, thsDp]
    exact inLim_seq (lim_sms _ _ _ hn (by omega)) fun h3 => ih _ h3
theorem may_exs_of (l : List Ex) (h : ∀ x ∈ l, ∀ d u, x.wk mayE d u = (x.ok, ())) (d : Nat) (u : Unit) : exsWk mayE l d u = (exsOk l, ()) := by
  induction l generalizing u with
  | nil => rw [exsWk, exsOk]
  | cons x r ih =>
    rw [exsWk, h x List.mem_cons_self, exsOk]
    cases x.ok with
    | false => rfl
    | true => rw [andW_t, ih (fun y hy => h y (List.mem_cons_of_mem _ hy))]; rfl
theorem may_ex (e : Ex) : ∀ d u, e.wk mayE d u = (e.ok, ()) := by
  induction e using Ex.rec_on with
  | h e ih =>
    intro d u
    rw [ex_wk, ex_ok]
    unfold mayE
    cases exBad e with
    | true => rfl
    | false => exact may_exs_of e.ks ih _ _
theorem may_exs (l : List Ex) (d : Nat) (u : Unit) : exsWk mayE l d u = (exsOk l, ()) := may_exs_of l (fun x _ => may_ex x) d u
theorem may_sms (l : List Sm) : ∀ d u, smsWk mayE mayS l d u = (smsOk l, ()) := by
  induction l using sms_rec with
  | h l ih =>
    induction l with
    | nil => intro d u; rw [smsWk, smsOk]
    | cons y r ih2 =>
      intro d u
      obtain ⟨h1, h2⟩ := ih y List.mem_cons_self
      have hr := fun d u => ih2 (fun s hs => ih s (List.mem_cons_of_mem _ hs)) d u
      rw [smsWk, smsOk, sm_wk, sm_ok]
      have hy : mayS y d u = (!(smBad1 y) && !(smBad2 y), ()) := rfl
      rw [hy]
      cases h3 : (!(smBad1 y) && !(smBad2 y)) with
      | false => rfl
      | true =>
        rw [andW_t]
        unfold walkW
        rw [may_exs]
        cases exsOk y.es with
        | false => simp [andW]
        | true =>
          rw [andW_t, h1]
          cases smsOk y.th with
          | false => rfl
          | true =>
            rw [andW_t, h2]
            cases smsOk y.el with
            | false => rfl
            | true => rw [andW_t, hr]; rfl
theorem may_ths (l : List Th) (u : Unit) : thsWk mayE mayS l u = (thsOk l, ()) := by
  induction l generalizing u with
  | nil => rw [thsWk]; rfl
  | cons t r ih =>
    rw [thsWk, may_sms]
    have h : thsOk (t :: r) = (smsOk t.l && thsOk r) := rfl
    rw [h]
    cases smsOk t.l with
    | false => rfl
    | true => rw [andW_t, ih]; rfl
/-- A function that asks for nothing but how deep a node stands. -/
structure StepD {σ : Type} (w0 : World) (G : σ → List It) (ok : Nat → σ → Prop) (h : Nat → σ → Bool × σ) (fd : FuncId) (cd : Array Value) : Prop where
  enters : Enters Tryd.prog fd
  call : ∀ (d k : Nat) (s : σ) (F : List It) (w : World), Mem w0 w (G s ++ F) → d ≤ 1000000 → ok (k + 1) s → Calls Tryd.prog fd (#[.int .i64 ((d : Nat) : Int)] ++ cd) w (Gives w0 (fun r : Bool × σ => .bool r.1) (fun r => G r.2 ++ F) fun r => r = h d s)
  ok : ∀ (d k : Nat) (s : σ), ok (k + 1) s → (h d s).1 = true → ok k (h d s).2
end Go.Proofs.YtmfiiapmkidmkaaDoor
