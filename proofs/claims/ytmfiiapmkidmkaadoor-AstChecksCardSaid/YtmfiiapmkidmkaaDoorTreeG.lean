/-
  Trees whose names are short: what the kit's measure tells of names.
-/
import Derived.Test.YtmfiiapmkidmkaaDoorTreeE
namespace Go.Proofs.YtmfiiapmkidmkaaDoor
open Go Go.RowKit

mutual
def Ex.sh : Ex → Bool
  | .mk _ _ m _ _ ks => decide (m.length ≤ 65536) && exsSh ks
def exsSh : List Ex → Bool
  | [] => true
  | x :: r => x.sh && exsSh r
end
theorem ex_sh {e : Ex} (h : e.sh = true) : e.nm.length ≤ 65536 ∧ exsSh e.ks = true := by
  cases e
  rw [Ex.sh, Bool.and_eq_true, decide_eq_true_iff] at h
  exact h
theorem exsSh_mem {l : List Ex} (h : exsSh l = true) {x : Ex} (hx : x ∈ l) : x.sh = true := by
  induction l with
  | nil => cases hx
  | cons y r ih =>
    rw [exsSh, Bool.and_eq_true] at h
    rcases List.mem_cons.1 hx with rfl | hx
    · exact h.1
    · exact ih h.2 hx
mutual
def Sm.sh : Sm → Bool
  | .mk _ m o _ _ _ es _ _ th _ _ el => decide (m.length ≤ 65536) && decide (o.length ≤ 65536) && exsSh es && smsSh th && smsSh el
def smsSh : List Sm → Bool
  | [] => true
  | x :: r => x.sh && smsSh r
end
theorem sm_sh {s : Sm} (h : s.sh = true) : s.nm.length ≤ 65536 ∧ s.loc.length ≤ 65536 ∧ exsSh s.es = true ∧ smsSh s.th = true ∧ smsSh s.el = true := by
  cases s
  simp only [Sm.sh, Bool.and_eq_true, decide_eq_true_iff] at h
  exact ⟨h.1.1.1.1, h.1.1.1.2, h.1.1.2, h.1.2, h.2⟩
theorem smsSh_mem {l : List Sm} (h : smsSh l = true) {x : Sm} (hx : x ∈ l) : x.sh = true := by
  induction l with
  | nil => cases hx
  | cons y r ih =>
    rw [smsSh, Bool.and_eq_true] at h
    rcases List.mem_cons.1 hx with rfl | hx
    · exact h.1
    · exact ih h.2 hx
def pgSh (p : Pg) : Bool := (p.ds.all fun d => decide (d.nm.length ≤ 65536)) && (p.ts.all fun t => smsSh t.l)
theorem pg_sh {p : Pg} (h : pgSh p = true) : (∀ d ∈ p.ds, d.nm.length ≤ 65536) ∧ ∀ t ∈ p.ts, smsSh t.l = true := by
  unfold pgSh at h
  rw [Bool.and_eq_true, List.all_eq_true, List.all_eq_true] at h
  exact ⟨fun d hd => by simpa using h.1 d hd, h.2⟩
theorem exsHf_le (l : List Ex) : ∀ n : Int, 0 ≤ exsHf l n → 0 ≤ n ∧ exsHf l n ≤ n := by
  intro n h
  have h1 := exsHf_sz l n h
  constructor <;> omega
theorem hf_sh (e : Ex) : ∀ n : Int, n ≤ 3200 → 0 ≤ e.hf n → e.sh = true := by
  induction e using Ex.rec_on with
  | h e ih =>
    intro n hn h
    have h0 := hf_eq e n
    rw [h0] at h
    have h1 := exsHf_le _ _ h
    have key : ∀ (ks : List Ex) (v : Int), (∀ x ∈ ks, ∀ n : Int, n ≤ 3200 → 0 ≤ x.hf n → x.sh = true) → v ≤ 3200 → 0 ≤ exsHf ks v → exsSh ks = true := by
      intro ks
      induction ks with
      | nil => intro v _ _ _; rfl
      | cons x r ih2 =>
        intro v hx hv h
        rw [exsHf] at h
        split at h
        · omega
        · have h2 := exsHf_le _ _ h
          have h3 := hf_sz x v h2.1
          rw [exsSh, hx x List.mem_cons_self v hv h2.1, ih2 (x.hf v) (fun y hy => hx y (List.mem_cons_of_mem _ hy)) (by omega) h]
          rfl
    have h2 := key e.ks _ ih (by omega) h
    cases e with
    | mk o nu m A c ks =>
      rw [Ex.sh, Bool.and_eq_true, decide_eq_true_iff]
      refine ⟨?_, h2⟩
      replace h1 : 0 ≤ n - 1 - ((m.length / 20 : Nat) : Int) := h1.1
      omega
theorem exsHf_sh (ks : List Ex) : ∀ v : Int, v ≤ 3200 → 0 ≤ exsHf ks v → exsSh ks = true := by
  induction ks with
  | nil => intro v _ _; rfl
  | cons x r ih2 =>
    intro v hv h
    rw [exsHf] at h
    split at h
    · omega
    · have h2 := exsHf_le _ _ h
      have h3 := hf_sz x v h2.1
      rw [exsSh, hf_sh x v hv h2.1, ih2 (x.hf v) (by omega) h]
      rfl
theorem smsHf_sh (l : List Sm) : ∀ v : Int, v ≤ 3200 → 0 ≤ smsHf l v → smsSh l = true := by
  induction l using sms_rec with
  | h l ih =>
    induction l with
    | nil => intro v _ _; rfl
    | cons y r ih2 =>
      intro v hv h
      rw [smsHf] at h
      split at h
      · omega
      · have h1 := smsHf_sz r _ h
        obtain ⟨it, ie⟩ := ih y List.mem_cons_self
        have hy : 0 ≤ y.hf v := by omega
        have hr : y.hf v ≤ v := by
          have := smsHf_sz [y] v (by rw [smsHf, if_neg (by omega), smsHf]; exact hy)
          rw [smsHf, if_neg (by omega), smsHf] at this
          omega
        rw [smsSh, ih2 (fun s hs => ih s (List.mem_cons_of_mem _ hs)) _ (by omega) h, Bool.and_true]
        rw [sm_hf] at hy
        split at hy
        · rename_i g2
          have k3 := ie (smHf2 y v)
          have g3 := smsHf_sz y.el _ hy
          unfold smHf2 at g2 k3 g3 hy
          split at g2
          · rename_i g1
            rw [if_pos g1] at k3 g3 hy
            have g4 := smsHf_sz y.th _ g2
            have k2 := it (smHf1 y v)
            unfold smHf1 at g1 g2 g3 g4 k2 k3 hy
            have g5 := exsHf_le y.es _ g1
            have k1 := exsHf_sh y.es _ (by omega) g1
            have k2 := k2 (by omega) g2
            have k3 := k3 (by omega) hy
            cases y
            simp only [Sm.sh, Bool.and_eq_true, decide_eq_true_iff]
            have e1 := g5.1
            refine ⟨⟨⟨⟨?_, ?_⟩, k1⟩, k2⟩, k3⟩
            · simp only [Sm.nm, Sm.loc] at e1; omega
            · simp only [Sm.nm, Sm.loc] at e1; omega
          · omega
        · omega
theorem pgHf_sh (p : Pg) (h : 0 ≤ pgHf p 3000) : pgSh p = true := by
  unfold pgHf at h
  have h1 := thsHf_sz _ _ h
  have hd : ∀ (l : List Dc) (n : Int), n ≤ 3000 → 0 ≤ dcsHf l n → ∀ d ∈ l, d.nm.length ≤ 65536 := by
    intro l
    induction l with
    | nil => intro n _ _ d hd; cases hd
    | cons x r ih =>
      intro n hn h d hd
      rw [dcsHf] at h
      split at h
      · omega
      · have h2 := dcsHf_le r (n - ((x.nm.length / 20 : Nat) : Int))
        rcases List.mem_cons.1 hd with rfl | hd
        · omega
        · exact ih _ (by omega) h d hd
  have ht : ∀ (l : List Th) (n : Int), n ≤ 3000 → 0 ≤ thsHf l n → ∀ t ∈ l, smsSh t.l = true := by
    intro l
    induction l with
    | nil => intro n _ _ t ht; cases ht
    | cons x r ih =>
      intro n hn h t ht
      rw [thsHf] at h
      split at h
      · omega
      · have h2 := thsHf_sz r _ h
        have h3 : 0 ≤ smsHf x.l n := by omega
        have h4 := smsHf_sz x.l n h3
        rcases List.mem_cons.1 ht with rfl | ht
        · exact smsHf_sh _ n (by omega) h3
        · exact ih _ (by omega) h t ht
  have h2 := dcsHf_le p.ds (3000 - min (3000 + 1) ((p.ds.length : Nat) : Int) - min (3000 + 1) ((p.ts.length : Nat) : Int))
  unfold pgSh
  rw [Bool.and_eq_true, List.all_eq_true, List.all_eq_true]
  exact ⟨fun d hd' => by rw [decide_eq_true_iff]; exact hd p.ds (3000 - min (3000 + 1) ((p.ds.length : Nat) : Int) - min (3000 + 1) ((p.ts.length : Nat) : Int)) (by omega) (by omega) d hd', ht p.ts _ (Int.le_trans h2 (by omega)) h⟩
end Go.Proofs.YtmfiiapmkidmkaaDoor
