/-
  The document's answers for layer 2: the token at a place.
-/
import Derived.Test.YtbcfggdifljacaaDoorLexD
import Derived.Test.YtbcfggdifljacaaDoorTok
namespace Go.Proofs.YtbcfggdifljacaaDoor
open Go Go.RowKit

/-- A byte that may stand in a word. -/
def wordB (c : UInt8) : Bool := isLetter c || (isDigit c || (((c.toNat : Nat) : Int) == 95))
/-- The number that a rest begins with. -/
def numAt (r : List UInt8) : Option Int := if ((numOf (r.takeWhile isDigit)).2 && !((r.drop (r.takeWhile isDigit).length).head?.any fun d => isLetter d || (((d.toNat : Nat) : Int) == 95))) = true then some (numOf (r.takeWhile isDigit)).1 else none
/-- The sign that a rest begins with. -/
def signAt (r : List UInt8) : Option (List UInt8) := signL.find? fun q => q.isPrefixOf r
/-- A token's kind, text and number. -/
abbrev Tk := Int × List UInt8 × Int
/-- The token that a rest begins with. -/
def oneOf (r : List UInt8) : Option Tk := match r with
  | [] => none
  | c :: _ => if isLetter c = true then some (((kindOf (r.takeWhile wordB) : Nat) : Int), r.takeWhile wordB, 0)
    else if isDigit c = true then (numAt r).map fun n => (3, r.takeWhile isDigit, n)
    else (signAt r).map fun q => (4, q, 0)
/-- What one answers. -/
def oneV (t : Option Tk) (p : Nat) : Value := match t with
  | some (k, s, n) => .tuple #[.agg (tokC k s n ((p : Nat) : Int)).toArray, .bool true]
  | none => .tuple #[.agg (tokC 0 [] 0 0).toArray, .bool false]
theorem take_of_all {P : UInt8 → Bool} : ∀ (r : List UInt8) (n : Nat), n ≤ r.length → (∀ j c, j < n → r[j]? = some c → P c = true) → (∀ c, r[n]? = some c → P c = false) → r.take n = r.takeWhile P := by
  intro r
  induction r with
  | nil => intro n _ _ _; simp
  | cons c r ih =>
    intro n hn h1 h2
    cases n with
    | zero => rw [List.takeWhile_cons, if_neg (by rw [h2 c rfl]; decide)]; rfl
    | succ n =>
      rw [List.takeWhile_cons, if_pos (h1 0 c (by omega) rfl), List.take_succ_cons, ih n (by simpa using hn) (fun j d hj hd => h1 (j + 1) d (by omega) (by simpa using hd)) (fun d hd => h2 d (by simpa using hd))]
theorem tw_eq {P : UInt8 → Bool} {l : List UInt8} {p e : Nat} (hpe : p ≤ e) (hel : e ≤ l.length) (hall : ∀ (j : Nat) (c : UInt8), p ≤ j → j < e → l[j]? = some c → P c = true) (hend : ∀ c, l[e]? = some c → P c = false) : (l.drop p).take (e - p) = (l.drop p).takeWhile P :=
  take_of_all _ _ (by simp; omega) (fun j c hj hc => hall (p + j) c (by omega) (by omega) (by rwa [List.getElem?_drop] at hc)) (fun c hc => hend c (by rw [List.getElem?_drop, show p + (e - p) = e by omega] at hc; exact hc))
theorem dig_of {l : List UInt8} {p e : Nat} (hall : ∀ (j : Nat) (c : UInt8), p ≤ j → j < e → l[j]? = some c → isDigit c = true) : ∀ c ∈ (l.drop p).take (e - p), 48 ≤ c.toNat ∧ c.toNat ≤ 57 := by
  intro c hc
  obtain ⟨j, hj, rfl⟩ := List.getElem_of_mem hc
  have hj2 : j < e - p := by simp at hj; omega
  have hj3 : p + j < l.length := by simp at hj; omega
  have := hall (p + j) (l[p + j]) (by omega) (by omega) (List.getElem?_eq_getElem hj3)
  rw [show ((l.drop p).take (e - p))[j] = l[p + j] by simp]
  unfold isDigit at this
  simp at this
  omega
theorem tw_next {l : List UInt8} {p e : Nat} (hpe : p ≤ e) (hel : e ≤ l.length) : ((l.drop p).drop ((l.drop p).take (e - p)).length).head? = l[e]? := by
  rw [List.head?_eq_getElem?, List.getElem?_drop, List.getElem?_drop]
  congr 1
  simp
  omega
theorem num_no {r : List UInt8} (h : (numOf (r.takeWhile isDigit)).2 = false ∨ ∃ d, (r.drop (r.takeWhile isDigit).length).head? = some d ∧ (isLetter d || (((d.toNat : Nat) : Int) == 95)) = true) : numAt r = none := by
  unfold numAt
  rw [if_neg ?_]
  rcases h with h | ⟨d, h1, h2⟩
  · rw [h]; simp
  · rw [h1, Option.any_some, h2]; simp
theorem num_yes {l : List UInt8} {p e : Nat} (htw : (l.drop p).take (e - p) = (l.drop p).takeWhile isDigit) (his : (numOf ((l.drop p).take (e - p))).2 = true) (hnx : ∀ c, l[e]? = some c → (isLetter c || (((c.toNat : Nat) : Int) == 95)) = false) (hpe : p ≤ e) (hel : e ≤ l.length := by omega) : numAt (l.drop p) = some (numOf ((l.drop p).take (e - p))).1 := by
  unfold numAt
  rw [← htw, if_pos ?_]
  rw [his, tw_next hpe hel]
  cases h : l[e]? with
  | none => rfl
  | some d => rw [Option.any_some, hnx d h]; rfl
theorem pre_yes {q r : List UInt8} {p : Nat} (h : r.take (p + q.length - p) = q) : q.isPrefixOf r = true := by
  rw [List.isPrefixOf_iff_prefix, List.prefix_iff_eq_take]
  rw [show p + q.length - p = q.length by omega] at h
  exact h.symm
theorem pre_no {q r : List UInt8} {p : Nat} (h : ¬ r.take (p + q.length - p) = q) : q.isPrefixOf r = false := by
  rw [← Bool.not_eq_true, List.isPrefixOf_iff_prefix, List.prefix_iff_eq_take]
  rw [show p + q.length - p = q.length by omega] at h
  exact fun e => h e.symm
theorem pre_short {q r : List UInt8} (h : r.length < q.length) : q.isPrefixOf r = false := by
  rw [← Bool.not_eq_true, List.isPrefixOf_iff_prefix]
  exact fun e => absurd e.length_le (by omega)
theorem sign_len {i : Nat} {q : List UInt8} (h : signL[i]? = some q) : q.length ≤ 2 := by
  have : ∀ q ∈ signL, q.length ≤ 2 := by decide
  exact this q (List.mem_of_getElem? h)
theorem find_first {α : Type} {f : α → Bool} : ∀ (L : List α) (i : Nat) (q : α), L[i]? = some q → f q = true → (∀ j r, j < i → L[j]? = some r → f r = false) → L.find? f = some q := by
  intro L
  induction L with
  | nil => intro i q h; simp at h
  | cons x L ih =>
    intro i q h hf hn
    cases i with
    | zero => obtain rfl := Option.some.inj h; rw [List.find?_cons, hf]
    | succ i => rw [List.find?_cons, hn 0 x (by omega) rfl]; exact ih i q (by simpa using h) hf (fun j r hj hr => hn (j + 1) r (by omega) (by simpa using hr))
theorem sign_yes {r q : List UInt8} {i : Nat} (h : signL[i]? = some q) (hq : q.isPrefixOf r = true) (hn : ∀ (j : Nat) (s : List UInt8), j < i → signL[j]? = some s → s.isPrefixOf r = false) : signAt r = some q := find_first signL i q h hq hn
theorem sign_no {r : List UInt8} (hn : ∀ (j : Nat) (s : List UInt8), signL[j]? = some s → s.isPrefixOf r = false) : signAt r = none := by
  unfold signAt
  rw [List.find?_eq_none]
  intro s hs
  obtain ⟨j, hj, rfl⟩ := List.getElem_of_mem hs
  rw [hn j _ (List.getElem?_eq_getElem hj)]; decide
set_option maxRecDepth 100000 in
set_option maxHeartbeats 4000000 in
theorem ref_one_word (l : List UInt8) (p : Nat) (w0 : World) {c : UInt8} (hc : l[p]? = some c) (hp : p < l.length) (hlen : l.length ≤ 4611686018427387904) (hlet : isLetter c = true) : Calls Tryd.prog 27 #[Str l, .int .i64 ((p : Nat) : Int)] w0 (Ret w0 (oneV (some (((kindOf ((l.drop p).takeWhile wordB) : Nat) : Int), (l.drop p).takeWhile wordB, 0)) p)) := by
  refine calls_of_wp Tryd.func27 rfl ?_
  obtain ⟨hz, e0, e1⟩ := start_act2 144 ((Str l)) ((.int .i64 ((p : Nat) : Int))) (by decide)
  have hd : ({ tmps := #[(Str l), (.int .i64 ((p : Nat) : Int))] ++ Array.replicate (144 - 2) undef, defers := [] } : Act).defers = [] := rfl
  rw [show Tryd.f27.ntmps - (#[(Str l), (.int .i64 ((p : Nat) : Int))] : Array Value).size = 144 - 2 from rfl]
  generalize ({ tmps := #[(Str l), (.int .i64 ((p : Nat) : Int))] ++ Array.replicate (144 - 2) undef, defers := [] } : Act) = a0 at hz e0 e1 hd ⊢
  have hB : Below w0.heap.size w0 w0 := Below.refl _ _
  have hS := hB.size
  refine wp_seq ?_
  refine seq_startL (l := [0, 1]) (by kernel_rfl) ?_
  refine seq_valD 4 rfl rfl rfl (run_allocTok rfl) ?_
  have x4 := RowT.new w0 35 (tokC 0 [] 0 0)
  replace hB := hB.al (o := .cells ((tokC 0 [] 0 0) : List Value).toArray 35)
  change wpOps _ _ _ _ _ (w0.alloc (.cells ((tokC 0 [] 0 0) : List Value).toArray 35))
  generalize (w0.alloc (.cells ((tokC 0 [] 0 0) : List Value).toArray 35)) = w1 at x4 hB ⊢
  generalize hbq4 : w0.heap.size = b4 at x4 ⊢
  have hge4 : w0.heap.size ≤ b4 := by rw [← hbq4]; exact hS
  clear hbq4
  have hS := hB.size
  refine seq_assign 5 (v := (.bool false)) rfl rfl rfl rfl rfl ?_
  refine seq_nil ?_
  refine seq_out (((KeepM.refl 11 [4, 5] a0).put (by decide)).put (by decide)) fun a2 k2 tr => ?_
  have f4 := tr 4 (.pointer (some ⟨b4, 0, none⟩)) ((ev_ne (by decide)).trans (ev_same (by first | (rw [hz]; decide) | (simp only [size_put, hz]; decide))))
  have f5 := tr 5 (.bool false) (ev_same (by first | (rw [hz]; decide) | (simp only [size_put, hz]; decide)))
  clear tr
  replace e0 := k2.ev e0 (by decide)
  replace e1 := k2.ev e1 (by decide)
  replace hz := k2.size.trans hz
  replace hd := k2.defers.trans hd
  have e4 := f4
  clear f4
  have e5 := f5
  clear f5
  refine wp_seq ?_
  refine seq_startL (l := [0, 1]) (by kernel_rfl) ?_
  refine seq_move 11 (v := (.int .i64 ((p : Nat) : Int))) rfl rfl rfl rfl e1 ?_
  refine seq_assign 6 (v := (.int .i64 ((p : Nat) : Int))) rfl rfl rfl rfl (ev_same (by first | (rw [hz]; decide) | (simp only [size_put, hz]; decide))) ?_
  refine seq_nil ?_
  refine seq_out (((KeepM.refl 11 [6] a2).put (by decide)).put (by decide)) fun a3 k3 tr => ?_
  have f6 := tr 6 (.int .i64 ((p : Nat) : Int)) (ev_same (by first | (rw [hz]; decide) | (simp only [size_put, hz]; decide)))
  clear tr
  replace e0 := k3.ev e0 (by decide)
  replace e1 := k3.ev e1 (by decide)
  replace e4 := k3.ev e4 (by decide)
  replace e5 := k3.ev e5 (by decide)
  replace hz := k3.size.trans hz
  replace hd := k3.defers.trans hd
  have e6 := f6
  clear f6
  refine wp_seq ?_
  refine wp_seq ?_
  have hCF : Calm (fun wq => RowT wq b4 35 (tokC 0 [] 0 0) ∧ Below w0.heap.size w0 wq) := fun _ _ hb hF => by obtain ⟨x4, hB⟩ := hF; exact ⟨x4.below hb x4.lt, Below.next hB hb⟩
  have hCX : ∀ bb : Bool, Calm ((fun (_ : Bool) (_ : World) => True) bb) := fun _ _ _ _ _ => trivial
  have hF0 : (fun wq => RowT wq b4 35 (tokC 0 [] 0 0) ∧ Below w0.heap.size w0 wq) w1 := ⟨x4, hB⟩
  refine region_fs (n := 4) [some (Str l), some (.int .i64 ((p : Nat) : Int)), some (.int .u8 ((c.toNat : Nat) : Int)), some (.bool true)] 4 (fun wq => RowT wq b4 35 (tokC 0 [] 0 0) ∧ Below w0.heap.size w0 wq) (fun _ _ => True) hF0 trivial (by rw [hz]; kernel_rfl) (by kernel_rfl) (by kernel_rfl) (by kernel_rfl) ?_ fun L a4 w4 hL st => ?_
  · refine ⟨⟨⟨⟨trivial, ?_⟩, ?_⟩, ?_⟩, ?_⟩
    · intro oo aa ww LL hho hho2 haft st; obtain rfl := Option.some.inj hho; exact payF_move st (by decide) (want_none rfl) rfl (st.outV (by kernel_rfl) e0) rfl
    · intro oo aa ww LL hho hho2 haft st; obtain rfl := Option.some.inj hho; exact payF_move st (by decide) (want_none rfl) rfl (st.outV (by kernel_rfl) e1) rfl
    · intro oo aa ww LL hho hho2 haft st; obtain rfl := Option.some.inj hho; exact payF st (by decide) (want_none rfl) (fun ww hF => by obtain ⟨x4, hB⟩ := hF; exact run_idxS (k := p) rfl (st.argF (j := 0) (aft_of haft (by kernel_rfl)) rfl rfl) (st.argF (j := 1) (aft_of haft (by kernel_rfl)) rfl rfl) hc) rfl
    · intro oo aa ww LL hho hho2 haft st; obtain rfl := Option.some.inj hho; exact callF st (by decide) hCF hCX (want_none rfl) en_ref_letter rfl (args_one (st.argF (j := 2) (aft_of haft (by kernel_rfl)) rfl rfl)) (callTF hlet (fun ww _ => ref_letter c ww)) rfl
  have k4 : KeepM 11 [] a3 a4 := st.keepM (by kernel_rfl)
  have hgf := st.g
  unfold GF at hgf
  have e15 : a4.eval (.tmp 15) = (.bool true) := st.argF (j := 3) (hL 3 (by omega)) rfl rfl
  clear hF0 hCF hCX hS x4 hB
  replace hgf := hgf.1
  obtain ⟨x4, hB⟩ := hgf
  clear st hL L
  replace e0 := k4.ev e0 (by decide)
  replace e1 := k4.ev e1 (by decide)
  replace e4 := k4.ev e4 (by decide)
  replace e5 := k4.ev e5 (by decide)
  replace e6 := k4.ev e6 (by decide)
  replace hz := k4.size.trans hz
  replace hd := k4.defers.trans hd
  have hS := hB.size
  refine wp_cond_true e15 ?_
  refine wp_seq ?_
  have hno : ∀ (j : Nat) (c : UInt8), p ≤ j → j < p → l[j]? = some c → wordB c = true := fun j c h h2 => absurd h2 (by omega)
  refine wp_block ?_
  refine wp_loop (fun aq wq => ∃ (e : Nat), (p ≤ e ∧ e ≤ l.length ∧ ∀ (j : Nat) (c : UInt8), p ≤ j → j < e → l[j]? = some c → wordB c = true) ∧ KeepM 11 [6] a4 aq ∧ aq.eval (.tmp 6) = (.int .i64 ((e : Nat) : Int)) ∧ RowT wq b4 35 (tokC 0 [] 0 0) ∧ Below w0.heap.size w0 wq) (fun aq _ => l.length - (intOf (aq.eval (.tmp 6))).toNat) ⟨p, ⟨Nat.le_refl _, by omega, hno⟩, KeepM.refl _ _ _, e6, x4, hB⟩ ?_
  rintro a5 w5 ⟨e, hk0, kk0, g6, qx4, qB⟩
  replace e0 := kk0.ev e0 (by decide)
  replace e1 := kk0.ev e1 (by decide)
  replace e4 := kk0.ev e4 (by decide)
  replace e5 := kk0.ev e5 (by decide)
  replace hz := kk0.size.trans hz
  replace hd := kk0.defers.trans hd
  clear e6 x4 hB hS
  have e6 := g6
  have x4 := qx4
  have hB := qB
  have hS := hB.size
  clear qx4 qB
  obtain ⟨hpe, hel, hall⟩ := hk0
  have e6s := e6
  refine wp_seq ?_
  refine wp_seq ?_
  by_cases hlt : e < l.length
  · obtain ⟨d, hde⟩ : ∃ d, l[e]? = some d := ⟨_, List.getElem?_eq_getElem hlt⟩
    cases hc3_8 : (isLetter d : Bool) with
    | true =>
      have hCF : Calm (fun wq => RowT wq b4 35 (tokC 0 [] 0 0) ∧ Below w0.heap.size w0 wq) := fun _ _ hb hF => by obtain ⟨x4, hB⟩ := hF; exact ⟨x4.below hb x4.lt, Below.next hB hb⟩
      have hCX : ∀ bb : Bool, Calm ((fun (_ : Bool) (_ : World) => True) bb) := fun _ _ _ _ _ => trivial
      have hF0 : (fun wq => RowT wq b4 35 (tokC 0 [] 0 0) ∧ Below w0.heap.size w0 wq) w5 := ⟨x4, hB⟩
      refine region_fs (n := 22) [some (.int .i64 ((e : Nat) : Int)), some (Str l), some (.int .i64 ((l.length : Nat) : Int)), some (.bool true), some (.bool true), some (Str l), some (.int .i64 ((e : Nat) : Int)), some (.int .u8 ((d.toNat : Nat) : Int)), some (.bool true), some (.bool true), some undef, some undef, some undef, some undef, some (.bool true), some (.bool true), some undef, some undef, some undef, some undef, some (.bool true), some (.bool true)] 22 (fun wq => RowT wq b4 35 (tokC 0 [] 0 0) ∧ Below w0.heap.size w0 wq) (fun _ _ => True) hF0 trivial (by rw [hz]; kernel_rfl) (by kernel_rfl) (by kernel_rfl) (by kernel_rfl) ?_ fun L a6 w6 hL st => ?_
      · refine ⟨⟨⟨⟨⟨⟨⟨⟨⟨⟨⟨⟨⟨⟨⟨⟨⟨⟨⟨⟨⟨⟨trivial, ?_⟩, ?_⟩, ?_⟩, ?_⟩, ?_⟩, ?_⟩, ?_⟩, ?_⟩, ?_⟩, ?_⟩, ?_⟩, ?_⟩, ?_⟩, ?_⟩, ?_⟩, ?_⟩, ?_⟩, ?_⟩, ?_⟩, ?_⟩, ?_⟩, ?_⟩
        · intro oo aa ww LL hho hho2 haft st; obtain rfl := Option.some.inj hho; exact payF_move st (by decide) (want_none rfl) rfl (st.outV (by kernel_rfl) e6) rfl
        · intro oo aa ww LL hho hho2 haft st; obtain rfl := Option.some.inj hho; exact payF_move st (by decide) (want_none rfl) rfl (st.outV (by kernel_rfl) e0) rfl
        · intro oo aa ww LL hho hho2 haft st; obtain rfl := Option.some.inj hho; exact payF st (by decide) (want_none rfl) (fun ww hF => by obtain ⟨x4, hB⟩ := hF; exact run_lenS rfl (st.argF (j := 1) (aft_of haft (by kernel_rfl)) rfl rfl)) rfl
        · intro oo aa ww LL hho hho2 haft st; obtain rfl := Option.some.inj hho; exact payF st (by decide) (want_none rfl) (fun ww hF => by obtain ⟨x4, hB⟩ := hF; exact (run_ltI rfl (st.argF (j := 0) (aft_of haft (by kernel_rfl)) rfl rfl) (st.argF (j := 2) (aft_of haft (by kernel_rfl)) rfl rfl)).trans (okB (c := true) (decide_eq_true (by omega)))) rfl
        · intro oo aa ww LL hho hho2 haft st; obtain rfl := Option.some.inj hho; exact payF_move st (by decide) (want_none rfl) rfl (st.argF (j := 3) (aft_of haft (by kernel_rfl)) rfl rfl) rfl
        · intro oo aa ww LL hho hho2 haft st; obtain rfl := Option.some.inj hho; exact payF_move st (by decide) (st.wantF haft rfl (by kernel_rfl) rfl) rfl (st.outV (by kernel_rfl) e0) rfl
        · intro oo aa ww LL hho hho2 haft st; obtain rfl := Option.some.inj hho; exact payF_move st (by decide) (st.wantF haft rfl (by kernel_rfl) rfl) rfl (st.outV (by kernel_rfl) e6) rfl
        · intro oo aa ww LL hho hho2 haft st; obtain rfl := Option.some.inj hho; exact payF st (by decide) (st.wantF haft rfl (by kernel_rfl) rfl) (fun ww hF => by obtain ⟨x4, hB⟩ := hF; exact run_idxS (k := e) rfl (st.argF (j := 5) (aft_of haft (by kernel_rfl)) rfl rfl) (st.argF (j := 6) (aft_of haft (by kernel_rfl)) rfl rfl) hde) rfl
        · intro oo aa ww LL hho hho2 haft st; obtain rfl := Option.some.inj hho; exact callF st (by decide) hCF hCX (st.wantF haft rfl (by kernel_rfl) rfl) en_ref_letter rfl (args_one (st.argF (j := 7) (aft_of haft (by kernel_rfl)) rfl rfl)) (callTF hc3_8 (fun ww _ => ref_letter d ww)) rfl
        · intro oo aa ww LL hho hho2 haft st; obtain rfl := Option.some.inj hho; exact payF_move st (by decide) (st.wantF haft rfl (by kernel_rfl) rfl) rfl (st.argF (j := 8) (aft_of haft (by kernel_rfl)) rfl rfl) rfl
        · intro oo aa ww LL hho hho2 haft st; obtain rfl := Option.some.inj hho; exact st.skipF (by decide) haft rfl (by kernel_rfl) rfl (.inl rfl) rfl
        · intro oo aa ww LL hho hho2 haft st; obtain rfl := Option.some.inj hho; exact st.skipF (by decide) haft rfl (by kernel_rfl) rfl (.inl rfl) rfl
        · intro oo aa ww LL hho hho2 haft st; obtain rfl := Option.some.inj hho; exact st.skipF (by decide) haft rfl (by kernel_rfl) rfl (.inl rfl) rfl
        · intro oo aa ww LL hho hho2 haft st; obtain rfl := Option.some.inj hho; exact st.skipF (by decide) haft rfl (by kernel_rfl) rfl (.inl rfl) rfl
        · intro oo aa ww LL hho hho2 haft st; obtain rfl := Option.some.inj hho; exact payF_pick st (by decide) (st.wantF haft rfl (by kernel_rfl) rfl) rfl (st.argF (j := 9) (aft_of haft (by kernel_rfl)) rfl rfl) rfl rfl
        · intro oo aa ww LL hho hho2 haft st; obtain rfl := Option.some.inj hho; exact payF_move st (by decide) (st.wantF haft rfl (by kernel_rfl) rfl) rfl (st.argF (j := 14) (aft_of haft (by kernel_rfl)) rfl rfl) rfl
        · intro oo aa ww LL hho hho2 haft st; obtain rfl := Option.some.inj hho; exact st.skipF (by decide) haft rfl (by kernel_rfl) rfl (.inl rfl) rfl
        · intro oo aa ww LL hho hho2 haft st; obtain rfl := Option.some.inj hho; exact st.skipF (by decide) haft rfl (by kernel_rfl) rfl (.inl rfl) rfl
        · intro oo aa ww LL hho hho2 haft st; obtain rfl := Option.some.inj hho; exact st.skipF (by decide) haft rfl (by kernel_rfl) rfl (.inl rfl) rfl
        · intro oo aa ww LL hho hho2 haft st; obtain rfl := Option.some.inj hho; exact st.skipF (by decide) haft rfl (by kernel_rfl) rfl (.inl rfl) rfl
        · intro oo aa ww LL hho hho2 haft st; obtain rfl := Option.some.inj hho; exact payF_pick st (by decide) (st.wantF haft rfl (by kernel_rfl) rfl) rfl (st.argF (j := 15) (aft_of haft (by kernel_rfl)) rfl rfl) rfl rfl
        · intro oo aa ww LL hho hho2 haft st; obtain rfl := Option.some.inj hho; exact payF_pick st (by decide) (want_none rfl) rfl (st.argF (j := 4) (aft_of haft (by kernel_rfl)) rfl rfl) (st.argF (j := 20) (aft_of haft (by kernel_rfl)) rfl rfl) rfl
      have k6 : KeepM 11 [] a5 a6 := st.keepM (by kernel_rfl)
      have hgf := st.g
      unfold GF at hgf
      have e37 : a6.eval (.tmp 37) = (.bool true) := st.argF (j := 21) (hL 21 (by omega)) rfl rfl
      clear hF0 hCF hCX hS x4 hB
      replace hgf := hgf.1
      obtain ⟨x4, hB⟩ := hgf
      clear st hL L
      replace e0 := k6.ev e0 (by decide)
      replace e1 := k6.ev e1 (by decide)
      replace e4 := k6.ev e4 (by decide)
      replace e5 := k6.ev e5 (by decide)
      replace e6 := k6.ev e6 (by decide)
      replace hz := k6.size.trans hz
      replace hd := k6.defers.trans hd
      replace kk0 := kk0.trans (k6.mono (ys := [6]) (by decide))
      have hS := hB.size
      have hv : wordB d = true := by unfold wordB; rw [hc3_8]; try rfl
      refine wp_cond_true e37 ?_
      refine wp_skip ?_
      refine wp_block ?_
      refine seq_startL (l := [0, 1, 2]) (by kernel_rfl) ?_
      refine seq_move 38 (v := (.int .i64 ((e : Nat) : Int))) rfl rfl rfl rfl e6 ?_
      refine seq_valD 39 (v := (.int .i64 ((e + 1 : Nat) : Int))) rfl rfl rfl (run_incI rfl (ev_same (by first | (rw [hz]; decide) | (simp only [size_put, hz]; decide))) rfl (by omega)) ?_
      refine seq_assign 6 (v := (.int .i64 ((e + 1 : Nat) : Int))) rfl rfl rfl rfl (ev_same (by first | (rw [hz]; decide) | (simp only [size_put, hz]; decide))) ?_
      refine seq_nil ?_
      refine seq_out ((((KeepM.refl 11 [6] a6).put (by decide)).put (by decide)).put (by decide)) fun a7 k7 tr => ?_
      have f6 := tr 6 (.int .i64 ((e + 1 : Nat) : Int)) (ev_same (by first | (rw [hz]; decide) | (simp only [size_put, hz]; decide)))
      clear tr
      replace e0 := k7.ev e0 (by decide)
      replace e1 := k7.ev e1 (by decide)
      replace e4 := k7.ev e4 (by decide)
      replace e5 := k7.ev e5 (by decide)
      replace hz := k7.size.trans hz
      replace hd := k7.defers.trans hd
      replace kk0 := kk0.trans (k7.mono (ys := [6]) (by decide))
      have e6 := f6
      clear f6
      refine ⟨⟨e + 1, ⟨by omega, by omega, fun j c h1 h2 h3 => ?_⟩, kk0, e6, x4, hB⟩, ?_⟩
      · by_cases ej : j = e
        · subst ej; rw [hde] at h3; rw [← Option.some.inj h3]; exact hv
        · exact hall j c h1 (by omega) h3
      · rw [e6, e6s]; simp [intOf]; omega
    | false =>
      cases hc3_13 : (isDigit d : Bool) with
      | true =>
        have hCF : Calm (fun wq => RowT wq b4 35 (tokC 0 [] 0 0) ∧ Below w0.heap.size w0 wq) := fun _ _ hb hF => by obtain ⟨x4, hB⟩ := hF; exact ⟨x4.below hb x4.lt, Below.next hB hb⟩
        have hCX : ∀ bb : Bool, Calm ((fun (_ : Bool) (_ : World) => True) bb) := fun _ _ _ _ _ => trivial
        have hF0 : (fun wq => RowT wq b4 35 (tokC 0 [] 0 0) ∧ Below w0.heap.size w0 wq) w5 := ⟨x4, hB⟩
        refine region_fs (n := 22) [some (.int .i64 ((e : Nat) : Int)), some (Str l), some (.int .i64 ((l.length : Nat) : Int)), some (.bool true), some (.bool true), some (Str l), some (.int .i64 ((e : Nat) : Int)), some (.int .u8 ((d.toNat : Nat) : Int)), some (.bool false), some (.bool false), some (Str l), some (.int .i64 ((e : Nat) : Int)), some (.int .u8 ((d.toNat : Nat) : Int)), some (.bool true), some (.bool true), some (.bool true), some undef, some undef, some undef, some undef, some (.bool true), some (.bool true)] 22 (fun wq => RowT wq b4 35 (tokC 0 [] 0 0) ∧ Below w0.heap.size w0 wq) (fun _ _ => True) hF0 trivial (by rw [hz]; kernel_rfl) (by kernel_rfl) (by kernel_rfl) (by kernel_rfl) ?_ fun L a8 w8 hL st => ?_
        · refine ⟨⟨⟨⟨⟨⟨⟨⟨⟨⟨⟨⟨⟨⟨⟨⟨⟨⟨⟨⟨⟨⟨trivial, ?_⟩, ?_⟩, ?_⟩, ?_⟩, ?_⟩, ?_⟩, ?_⟩, ?_⟩, ?_⟩, ?_⟩, ?_⟩, ?_⟩, ?_⟩, ?_⟩, ?_⟩, ?_⟩, ?_⟩, ?_⟩, ?_⟩, ?_⟩, ?_⟩, ?_⟩
          · intro oo aa ww LL hho hho2 haft st; obtain rfl := Option.some.inj hho; exact payF_move st (by decide) (want_none rfl) rfl (st.outV (by kernel_rfl) e6) rfl
          · intro oo aa ww LL hho hho2 haft st; obtain rfl := Option.some.inj hho; exact payF_move st (by decide) (want_none rfl) rfl (st.outV (by kernel_rfl) e0) rfl
          · intro oo aa ww LL hho hho2 haft st; obtain rfl := Option.some.inj hho; exact payF st (by decide) (want_none rfl) (fun ww hF => by obtain ⟨x4, hB⟩ := hF; exact run_lenS rfl (st.argF (j := 1) (aft_of haft (by kernel_rfl)) rfl rfl)) rfl
          · intro oo aa ww LL hho hho2 haft st; obtain rfl := Option.some.inj hho; exact payF st (by decide) (want_none rfl) (fun ww hF => by obtain ⟨x4, hB⟩ := hF; exact (run_ltI rfl (st.argF (j := 0) (aft_of haft (by kernel_rfl)) rfl rfl) (st.argF (j := 2) (aft_of haft (by kernel_rfl)) rfl rfl)).trans (okB (c := true) (decide_eq_true (by omega)))) rfl
          · intro oo aa ww LL hho hho2 haft st; obtain rfl := Option.some.inj hho; exact payF_move st (by decide) (want_none rfl) rfl (st.argF (j := 3) (aft_of haft (by kernel_rfl)) rfl rfl) rfl
          · intro oo aa ww LL hho hho2 haft st; obtain rfl := Option.some.inj hho; exact payF_move st (by decide) (st.wantF haft rfl (by kernel_rfl) rfl) rfl (st.outV (by kernel_rfl) e0) rfl
          · intro oo aa ww LL hho hho2 haft st; obtain rfl := Option.some.inj hho; exact payF_move st (by decide) (st.wantF haft rfl (by kernel_rfl) rfl) rfl (st.outV (by kernel_rfl) e6) rfl
          · intro oo aa ww LL hho hho2 haft st; obtain rfl := Option.some.inj hho; exact payF st (by decide) (st.wantF haft rfl (by kernel_rfl) rfl) (fun ww hF => by obtain ⟨x4, hB⟩ := hF; exact run_idxS (k := e) rfl (st.argF (j := 5) (aft_of haft (by kernel_rfl)) rfl rfl) (st.argF (j := 6) (aft_of haft (by kernel_rfl)) rfl rfl) hde) rfl
          · intro oo aa ww LL hho hho2 haft st; obtain rfl := Option.some.inj hho; exact callF st (by decide) hCF hCX (st.wantF haft rfl (by kernel_rfl) rfl) en_ref_letter rfl (args_one (st.argF (j := 7) (aft_of haft (by kernel_rfl)) rfl rfl)) (callTF hc3_8 (fun ww _ => ref_letter d ww)) rfl
          · intro oo aa ww LL hho hho2 haft st; obtain rfl := Option.some.inj hho; exact payF_move st (by decide) (st.wantF haft rfl (by kernel_rfl) rfl) rfl (st.argF (j := 8) (aft_of haft (by kernel_rfl)) rfl rfl) rfl
          · intro oo aa ww LL hho hho2 haft st; obtain rfl := Option.some.inj hho; exact payF_move st (by decide) (st.wantF haft rfl (by kernel_rfl) rfl) rfl (st.outV (by kernel_rfl) e0) rfl
          · intro oo aa ww LL hho hho2 haft st; obtain rfl := Option.some.inj hho; exact payF_move st (by decide) (st.wantF haft rfl (by kernel_rfl) rfl) rfl (st.outV (by kernel_rfl) e6) rfl
          · intro oo aa ww LL hho hho2 haft st; obtain rfl := Option.some.inj hho; exact payF st (by decide) (st.wantF haft rfl (by kernel_rfl) rfl) (fun ww hF => by obtain ⟨x4, hB⟩ := hF; exact run_idxS (k := e) rfl (st.argF (j := 10) (aft_of haft (by kernel_rfl)) rfl rfl) (st.argF (j := 11) (aft_of haft (by kernel_rfl)) rfl rfl) hde) rfl
          · intro oo aa ww LL hho hho2 haft st; obtain rfl := Option.some.inj hho; exact callF st (by decide) hCF hCX (st.wantF haft rfl (by kernel_rfl) rfl) en_ref_digit rfl (args_one (st.argF (j := 12) (aft_of haft (by kernel_rfl)) rfl rfl)) (callTF hc3_13 (fun ww _ => ref_digit d ww)) rfl
          · intro oo aa ww LL hho hho2 haft st; obtain rfl := Option.some.inj hho; exact payF_pick st (by decide) (st.wantF haft rfl (by kernel_rfl) rfl) rfl (st.argF (j := 9) (aft_of haft (by kernel_rfl)) rfl rfl) (st.argF (j := 13) (aft_of haft (by kernel_rfl)) rfl rfl) rfl
          · intro oo aa ww LL hho hho2 haft st; obtain rfl := Option.some.inj hho; exact payF_move st (by decide) (st.wantF haft rfl (by kernel_rfl) rfl) rfl (st.argF (j := 14) (aft_of haft (by kernel_rfl)) rfl rfl) rfl
          · intro oo aa ww LL hho hho2 haft st; obtain rfl := Option.some.inj hho; exact st.skipF (by decide) haft rfl (by kernel_rfl) rfl (.inl rfl) rfl
          · intro oo aa ww LL hho hho2 haft st; obtain rfl := Option.some.inj hho; exact st.skipF (by decide) haft rfl (by kernel_rfl) rfl (.inl rfl) rfl
          · intro oo aa ww LL hho hho2 haft st; obtain rfl := Option.some.inj hho; exact st.skipF (by decide) haft rfl (by kernel_rfl) rfl (.inl rfl) rfl
          · intro oo aa ww LL hho hho2 haft st; obtain rfl := Option.some.inj hho; exact st.skipF (by decide) haft rfl (by kernel_rfl) rfl (.inl rfl) rfl
          · intro oo aa ww LL hho hho2 haft st; obtain rfl := Option.some.inj hho; exact payF_pick st (by decide) (st.wantF haft rfl (by kernel_rfl) rfl) rfl (st.argF (j := 15) (aft_of haft (by kernel_rfl)) rfl rfl) rfl rfl
          · intro oo aa ww LL hho hho2 haft st; obtain rfl := Option.some.inj hho; exact payF_pick st (by decide) (want_none rfl) rfl (st.argF (j := 4) (aft_of haft (by kernel_rfl)) rfl rfl) (st.argF (j := 20) (aft_of haft (by kernel_rfl)) rfl rfl) rfl
        have k8 : KeepM 11 [] a5 a8 := st.keepM (by kernel_rfl)
        have hgf := st.g
        unfold GF at hgf
        have e37 : a8.eval (.tmp 37) = (.bool true) := st.argF (j := 21) (hL 21 (by omega)) rfl rfl
        clear hF0 hCF hCX hS x4 hB
        replace hgf := hgf.1
        obtain ⟨x4, hB⟩ := hgf
        clear st hL L
        replace e0 := k8.ev e0 (by decide)
        replace e1 := k8.ev e1 (by decide)
        replace e4 := k8.ev e4 (by decide)
        replace e5 := k8.ev e5 (by decide)
        replace e6 := k8.ev e6 (by decide)
        replace hz := k8.size.trans hz
        replace hd := k8.defers.trans hd
        replace kk0 := kk0.trans (k8.mono (ys := [6]) (by decide))
        have hS := hB.size
        have hv : wordB d = true := by unfold wordB; rw [hc3_8, hc3_13]; try rfl
        refine wp_cond_true e37 ?_
        refine wp_skip ?_
        refine wp_block ?_
        refine seq_startL (l := [0, 1, 2]) (by kernel_rfl) ?_
        refine seq_move 38 (v := (.int .i64 ((e : Nat) : Int))) rfl rfl rfl rfl e6 ?_
        refine seq_valD 39 (v := (.int .i64 ((e + 1 : Nat) : Int))) rfl rfl rfl (run_incI rfl (ev_same (by first | (rw [hz]; decide) | (simp only [size_put, hz]; decide))) rfl (by omega)) ?_
        refine seq_assign 6 (v := (.int .i64 ((e + 1 : Nat) : Int))) rfl rfl rfl rfl (ev_same (by first | (rw [hz]; decide) | (simp only [size_put, hz]; decide))) ?_
        refine seq_nil ?_
        refine seq_out ((((KeepM.refl 11 [6] a8).put (by decide)).put (by decide)).put (by decide)) fun a9 k9 tr => ?_
        have f6 := tr 6 (.int .i64 ((e + 1 : Nat) : Int)) (ev_same (by first | (rw [hz]; decide) | (simp only [size_put, hz]; decide)))
        clear tr
        replace e0 := k9.ev e0 (by decide)
        replace e1 := k9.ev e1 (by decide)
        replace e4 := k9.ev e4 (by decide)
        replace e5 := k9.ev e5 (by decide)
        replace hz := k9.size.trans hz
        replace hd := k9.defers.trans hd
        replace kk0 := kk0.trans (k9.mono (ys := [6]) (by decide))
        have e6 := f6
        clear f6
        refine ⟨⟨e + 1, ⟨by omega, by omega, fun j c h1 h2 h3 => ?_⟩, kk0, e6, x4, hB⟩, ?_⟩
        · by_cases ej : j = e
          · subst ej; rw [hde] at h3; rw [← Option.some.inj h3]; exact hv
          · exact hall j c h1 (by omega) h3
        · rw [e6, e6s]; simp [intOf]; omega
      | false =>
        cases hc3_19 : ((((d.toNat : Nat) : Int) == 95) : Bool) with
        | true =>
          have hCF : Calm (fun wq => RowT wq b4 35 (tokC 0 [] 0 0) ∧ Below w0.heap.size w0 wq) := fun _ _ hb hF => by obtain ⟨x4, hB⟩ := hF; exact ⟨x4.below hb x4.lt, Below.next hB hb⟩
          have hCX : ∀ bb : Bool, Calm ((fun (_ : Bool) (_ : World) => True) bb) := fun _ _ _ _ _ => trivial
          have hF0 : (fun wq => RowT wq b4 35 (tokC 0 [] 0 0) ∧ Below w0.heap.size w0 wq) w5 := ⟨x4, hB⟩
          refine region_fs (n := 22) [some (.int .i64 ((e : Nat) : Int)), some (Str l), some (.int .i64 ((l.length : Nat) : Int)), some (.bool true), some (.bool true), some (Str l), some (.int .i64 ((e : Nat) : Int)), some (.int .u8 ((d.toNat : Nat) : Int)), some (.bool false), some (.bool false), some (Str l), some (.int .i64 ((e : Nat) : Int)), some (.int .u8 ((d.toNat : Nat) : Int)), some (.bool false), some (.bool false), some (.bool false), some (Str l), some (.int .i64 ((e : Nat) : Int)), some (.int .u8 ((d.toNat : Nat) : Int)), some (.bool true), some (.bool true), some (.bool true)] 22 (fun wq => RowT wq b4 35 (tokC 0 [] 0 0) ∧ Below w0.heap.size w0 wq) (fun _ _ => True) hF0 trivial (by rw [hz]; kernel_rfl) (by kernel_rfl) (by kernel_rfl) (by kernel_rfl) ?_ fun L a10 w10 hL st => ?_
          · refine ⟨⟨⟨⟨⟨⟨⟨⟨⟨⟨⟨⟨⟨⟨⟨⟨⟨⟨⟨⟨⟨⟨trivial, ?_⟩, ?_⟩, ?_⟩, ?_⟩, ?_⟩, ?_⟩, ?_⟩, ?_⟩, ?_⟩, ?_⟩, ?_⟩, ?_⟩, ?_⟩, ?_⟩, ?_⟩, ?_⟩, ?_⟩, ?_⟩, ?_⟩, ?_⟩, ?_⟩, ?_⟩
            · intro oo aa ww LL hho hho2 haft st; obtain rfl := Option.some.inj hho; exact payF_move st (by decide) (want_none rfl) rfl (st.outV (by kernel_rfl) e6) rfl
            · intro oo aa ww LL hho hho2 haft st; obtain rfl := Option.some.inj hho; exact payF_move st (by decide) (want_none rfl) rfl (st.outV (by kernel_rfl) e0) rfl
            · intro oo aa ww LL hho hho2 haft st; obtain rfl := Option.some.inj hho; exact payF st (by decide) (want_none rfl) (fun ww hF => by obtain ⟨x4, hB⟩ := hF; exact run_lenS rfl (st.argF (j := 1) (aft_of haft (by kernel_rfl)) rfl rfl)) rfl
            · intro oo aa ww LL hho hho2 haft st; obtain rfl := Option.some.inj hho; exact payF st (by decide) (want_none rfl) (fun ww hF => by obtain ⟨x4, hB⟩ := hF; exact (run_ltI rfl (st.argF (j := 0) (aft_of haft (by kernel_rfl)) rfl rfl) (st.argF (j := 2) (aft_of haft (by kernel_rfl)) rfl rfl)).trans (okB (c := true) (decide_eq_true (by omega)))) rfl
            · intro oo aa ww LL hho hho2 haft st; obtain rfl := Option.some.inj hho; exact payF_move st (by decide) (want_none rfl) rfl (st.argF (j := 3) (aft_of haft (by kernel_rfl)) rfl rfl) rfl
            · intro oo aa ww LL hho hho2 haft st; obtain rfl := Option.some.inj hho; exact payF_move st (by decide) (st.wantF haft rfl (by kernel_rfl) rfl) rfl (st.outV (by kernel_rfl) e0) rfl
            · intro oo aa ww LL hho hho2 haft st; obtain rfl := Option.some.inj hho; exact payF_move st (by decide) (st.wantF haft rfl (by kernel_rfl) rfl) rfl (st.outV (by kernel_rfl) e6) rfl
            · intro oo aa ww LL hho hho2 haft st; obtain rfl := Option.some.inj hho; exact payF st (by decide) (st.wantF haft rfl (by kernel_rfl) rfl) (fun ww hF => by obtain ⟨x4, hB⟩ := hF; exact run_idxS (k := e) rfl (st.argF (j := 5) (aft_of haft (by kernel_rfl)) rfl rfl) (st.argF (j := 6) (aft_of haft (by kernel_rfl)) rfl rfl) hde) rfl
            · intro oo aa ww LL hho hho2 haft st; obtain rfl := Option.some.inj hho; exact callF st (by decide) hCF hCX (st.wantF haft rfl (by kernel_rfl) rfl) en_ref_letter rfl (args_one (st.argF (j := 7) (aft_of haft (by kernel_rfl)) rfl rfl)) (callTF hc3_8 (fun ww _ => ref_letter d ww)) rfl
            · intro oo aa ww LL hho hho2 haft st; obtain rfl := Option.some.inj hho; exact payF_move st (by decide) (st.wantF haft rfl (by kernel_rfl) rfl) rfl (st.argF (j := 8) (aft_of haft (by kernel_rfl)) rfl rfl) rfl
            · intro oo aa ww LL hho hho2 haft st; obtain rfl := Option.some.inj hho; exact payF_move st (by decide) (st.wantF haft rfl (by kernel_rfl) rfl) rfl (st.outV (by kernel_rfl) e0) rfl
            · intro oo aa ww LL hho hho2 haft st; obtain rfl := Option.some.inj hho; exact payF_move st (by decide) (st.wantF haft rfl (by kernel_rfl) rfl) rfl (st.outV (by kernel_rfl) e6) rfl
            · intro oo aa ww LL hho hho2 haft st; obtain rfl := Option.some.inj hho; exact payF st (by decide) (st.wantF haft rfl (by kernel_rfl) rfl) (fun ww hF => by obtain ⟨x4, hB⟩ := hF; exact run_idxS (k := e) rfl (st.argF (j := 10) (aft_of haft (by kernel_rfl)) rfl rfl) (st.argF (j := 11) (aft_of haft (by kernel_rfl)) rfl rfl) hde) rfl
            · intro oo aa ww LL hho hho2 haft st; obtain rfl := Option.some.inj hho; exact callF st (by decide) hCF hCX (st.wantF haft rfl (by kernel_rfl) rfl) en_ref_digit rfl (args_one (st.argF (j := 12) (aft_of haft (by kernel_rfl)) rfl rfl)) (callTF hc3_13 (fun ww _ => ref_digit d ww)) rfl
            · intro oo aa ww LL hho hho2 haft st; obtain rfl := Option.some.inj hho; exact payF_pick st (by decide) (st.wantF haft rfl (by kernel_rfl) rfl) rfl (st.argF (j := 9) (aft_of haft (by kernel_rfl)) rfl rfl) (st.argF (j := 13) (aft_of haft (by kernel_rfl)) rfl rfl) rfl
            · intro oo aa ww LL hho hho2 haft st; obtain rfl := Option.some.inj hho; exact payF_move st (by decide) (st.wantF haft rfl (by kernel_rfl) rfl) rfl (st.argF (j := 14) (aft_of haft (by kernel_rfl)) rfl rfl) rfl
            · intro oo aa ww LL hho hho2 haft st; obtain rfl := Option.some.inj hho; exact payF_move st (by decide) (st.wantF haft rfl (by kernel_rfl) rfl) rfl (st.outV (by kernel_rfl) e0) rfl
            · intro oo aa ww LL hho hho2 haft st; obtain rfl := Option.some.inj hho; exact payF_move st (by decide) (st.wantF haft rfl (by kernel_rfl) rfl) rfl (st.outV (by kernel_rfl) e6) rfl
            · intro oo aa ww LL hho hho2 haft st; obtain rfl := Option.some.inj hho; exact payF st (by decide) (st.wantF haft rfl (by kernel_rfl) rfl) (fun ww hF => by obtain ⟨x4, hB⟩ := hF; exact run_idxS (k := e) rfl (st.argF (j := 16) (aft_of haft (by kernel_rfl)) rfl rfl) (st.argF (j := 17) (aft_of haft (by kernel_rfl)) rfl rfl) hde) rfl
            · intro oo aa ww LL hho hho2 haft st; obtain rfl := Option.some.inj hho; exact payF st (by decide) (st.wantF haft rfl (by kernel_rfl) rfl) (fun ww hF => by obtain ⟨x4, hB⟩ := hF; exact (run_eq8 rfl (st.argF (j := 18) (aft_of haft (by kernel_rfl)) rfl rfl) rfl).trans (okB (c := true) hc3_19)) rfl
            · intro oo aa ww LL hho hho2 haft st; obtain rfl := Option.some.inj hho; exact payF_pick st (by decide) (st.wantF haft rfl (by kernel_rfl) rfl) rfl (st.argF (j := 15) (aft_of haft (by kernel_rfl)) rfl rfl) (st.argF (j := 19) (aft_of haft (by kernel_rfl)) rfl rfl) rfl
            · intro oo aa ww LL hho hho2 haft st; obtain rfl := Option.some.inj hho; exact payF_pick st (by decide) (want_none rfl) rfl (st.argF (j := 4) (aft_of haft (by kernel_rfl)) rfl rfl) (st.argF (j := 20) (aft_of haft (by kernel_rfl)) rfl rfl) rfl
          have k10 : KeepM 11 [] a5 a10 := st.keepM (by kernel_rfl)
          have hgf := st.g
          unfold GF at hgf
          have e37 : a10.eval (.tmp 37) = (.bool true) := st.argF (j := 21) (hL 21 (by omega)) rfl rfl
          clear hF0 hCF hCX hS x4 hB
          replace hgf := hgf.1
          obtain ⟨x4, hB⟩ := hgf
          clear st hL L
          replace e0 := k10.ev e0 (by decide)
          replace e1 := k10.ev e1 (by decide)
          replace e4 := k10.ev e4 (by decide)
          replace e5 := k10.ev e5 (by decide)
          replace e6 := k10.ev e6 (by decide)
          replace hz := k10.size.trans hz
          replace hd := k10.defers.trans hd
          replace kk0 := kk0.trans (k10.mono (ys := [6]) (by decide))
          have hS := hB.size
          have hv : wordB d = true := by unfold wordB; rw [hc3_8, hc3_13, hc3_19]; try rfl
          refine wp_cond_true e37 ?_
          refine wp_skip ?_
          refine wp_block ?_
          refine seq_startL (l := [0, 1, 2]) (by kernel_rfl) ?_
          refine seq_move 38 (v := (.int .i64 ((e : Nat) : Int))) rfl rfl rfl rfl e6 ?_
          refine seq_valD 39 (v := (.int .i64 ((e + 1 : Nat) : Int))) rfl rfl rfl (run_incI rfl (ev_same (by first | (rw [hz]; decide) | (simp only [size_put, hz]; decide))) rfl (by omega)) ?_
          refine seq_assign 6 (v := (.int .i64 ((e + 1 : Nat) : Int))) rfl rfl rfl rfl (ev_same (by first | (rw [hz]; decide) | (simp only [size_put, hz]; decide))) ?_
          refine seq_nil ?_
          refine seq_out ((((KeepM.refl 11 [6] a10).put (by decide)).put (by decide)).put (by decide)) fun a11 k11 tr => ?_
          have f6 := tr 6 (.int .i64 ((e + 1 : Nat) : Int)) (ev_same (by first | (rw [hz]; decide) | (simp only [size_put, hz]; decide)))
          clear tr
          replace e0 := k11.ev e0 (by decide)
          replace e1 := k11.ev e1 (by decide)
          replace e4 := k11.ev e4 (by decide)
          replace e5 := k11.ev e5 (by decide)
          replace hz := k11.size.trans hz
          replace hd := k11.defers.trans hd
          replace kk0 := kk0.trans (k11.mono (ys := [6]) (by decide))
          have e6 := f6
          clear f6
          refine ⟨⟨e + 1, ⟨by omega, by omega, fun j c h1 h2 h3 => ?_⟩, kk0, e6, x4, hB⟩, ?_⟩
          · by_cases ej : j = e
            · subst ej; rw [hde] at h3; rw [← Option.some.inj h3]; exact hv
            · exact hall j c h1 (by omega) h3
          · rw [e6, e6s]; simp [intOf]; omega
        | false =>
          have hCF : Calm (fun wq => RowT wq b4 35 (tokC 0 [] 0 0) ∧ Below w0.heap.size w0 wq) := fun _ _ hb hF => by obtain ⟨x4, hB⟩ := hF; exact ⟨x4.below hb x4.lt, Below.next hB hb⟩
          have hCX : ∀ bb : Bool, Calm ((fun (_ : Bool) (_ : World) => True) bb) := fun _ _ _ _ _ => trivial
          have hF0 : (fun wq => RowT wq b4 35 (tokC 0 [] 0 0) ∧ Below w0.heap.size w0 wq) w5 := ⟨x4, hB⟩
          refine region_fs (n := 22) [some (.int .i64 ((e : Nat) : Int)), some (Str l), some (.int .i64 ((l.length : Nat) : Int)), some (.bool true), some (.bool true), some (Str l), some (.int .i64 ((e : Nat) : Int)), some (.int .u8 ((d.toNat : Nat) : Int)), some (.bool false), some (.bool false), some (Str l), some (.int .i64 ((e : Nat) : Int)), some (.int .u8 ((d.toNat : Nat) : Int)), some (.bool false), some (.bool false), some (.bool false), some (Str l), some (.int .i64 ((e : Nat) : Int)), some (.int .u8 ((d.toNat : Nat) : Int)), some (.bool false), some (.bool false), some (.bool false)] 22 (fun wq => RowT wq b4 35 (tokC 0 [] 0 0) ∧ Below w0.heap.size w0 wq) (fun _ _ => True) hF0 trivial (by rw [hz]; kernel_rfl) (by kernel_rfl) (by kernel_rfl) (by kernel_rfl) ?_ fun L a12 w12 hL st => ?_
          · refine ⟨⟨⟨⟨⟨⟨⟨⟨⟨⟨⟨⟨⟨⟨⟨⟨⟨⟨⟨⟨⟨⟨trivial, ?_⟩, ?_⟩, ?_⟩, ?_⟩, ?_⟩, ?_⟩, ?_⟩, ?_⟩, ?_⟩, ?_⟩, ?_⟩, ?_⟩, ?_⟩, ?_⟩, ?_⟩, ?_⟩, ?_⟩, ?_⟩, ?_⟩, ?_⟩, ?_⟩, ?_⟩
            · intro oo aa ww LL hho hho2 haft st; obtain rfl := Option.some.inj hho; exact payF_move st (by decide) (want_none rfl) rfl (st.outV (by kernel_rfl) e6) rfl
            · intro oo aa ww LL hho hho2 haft st; obtain rfl := Option.some.inj hho; exact payF_move st (by decide) (want_none rfl) rfl (st.outV (by kernel_rfl) e0) rfl
            · intro oo aa ww LL hho hho2 haft st; obtain rfl := Option.some.inj hho; exact payF st (by decide) (want_none rfl) (fun ww hF => by obtain ⟨x4, hB⟩ := hF; exact run_lenS rfl (st.argF (j := 1) (aft_of haft (by kernel_rfl)) rfl rfl)) rfl
            · intro oo aa ww LL hho hho2 haft st; obtain rfl := Option.some.inj hho; exact payF st (by decide) (want_none rfl) (fun ww hF => by obtain ⟨x4, hB⟩ := hF; exact (run_ltI rfl (st.argF (j := 0) (aft_of haft (by kernel_rfl)) rfl rfl) (st.argF (j := 2) (aft_of haft (by kernel_rfl)) rfl rfl)).trans (okB (c := true) (decide_eq_true (by omega)))) rfl
            · intro oo aa ww LL hho hho2 haft st; obtain rfl := Option.some.inj hho; exact payF_move st (by decide) (want_none rfl) rfl (st.argF (j := 3) (aft_of haft (by kernel_rfl)) rfl rfl) rfl
            · intro oo aa ww LL hho hho2 haft st; obtain rfl := Option.some.inj hho; exact payF_move st (by decide) (st.wantF haft rfl (by kernel_rfl) rfl) rfl (st.outV (by kernel_rfl) e0) rfl
            · intro oo aa ww LL hho hho2 haft st; obtain rfl := Option.some.inj hho; exact payF_move st (by decide) (st.wantF haft rfl (by kernel_rfl) rfl) rfl (st.outV (by kernel_rfl) e6) rfl
            · intro oo aa ww LL hho hho2 haft st; obtain rfl := Option.some.inj hho; exact payF st (by decide) (st.wantF haft rfl (by kernel_rfl) rfl) (fun ww hF => by obtain ⟨x4, hB⟩ := hF; exact run_idxS (k := e) rfl (st.argF (j := 5) (aft_of haft (by kernel_rfl)) rfl rfl) (st.argF (j := 6) (aft_of haft (by kernel_rfl)) rfl rfl) hde) rfl
            · intro oo aa ww LL hho hho2 haft st; obtain rfl := Option.some.inj hho; exact callF st (by decide) hCF hCX (st.wantF haft rfl (by kernel_rfl) rfl) en_ref_letter rfl (args_one (st.argF (j := 7) (aft_of haft (by kernel_rfl)) rfl rfl)) (callTF hc3_8 (fun ww _ => ref_letter d ww)) rfl
            · intro oo aa ww LL hho hho2 haft st; obtain rfl := Option.some.inj hho; exact payF_move st (by decide) (st.wantF haft rfl (by kernel_rfl) rfl) rfl (st.argF (j := 8) (aft_of haft (by kernel_rfl)) rfl rfl) rfl
            · intro oo aa ww LL hho hho2 haft st; obtain rfl := Option.some.inj hho; exact payF_move st (by decide) (st.wantF haft rfl (by kernel_rfl) rfl) rfl (st.outV (by kernel_rfl) e0) rfl
            · intro oo aa ww LL hho hho2 haft st; obtain rfl := Option.some.inj hho; exact payF_move st (by decide) (st.wantF haft rfl (by kernel_rfl) rfl) rfl (st.outV (by kernel_rfl) e6) rfl
            · intro oo aa ww LL hho hho2 haft st; obtain rfl := Option.some.inj hho; exact payF st (by decide) (st.wantF haft rfl (by kernel_rfl) rfl) (fun ww hF => by obtain ⟨x4, hB⟩ := hF; exact run_idxS (k := e) rfl (st.argF (j := 10) (aft_of haft (by kernel_rfl)) rfl rfl) (st.argF (j := 11) (aft_of haft (by kernel_rfl)) rfl rfl) hde) rfl
            · intro oo aa ww LL hho hho2 haft st; obtain rfl := Option.some.inj hho; exact callF st (by decide) hCF hCX (st.wantF haft rfl (by kernel_rfl) rfl) en_ref_digit rfl (args_one (st.argF (j := 12) (aft_of haft (by kernel_rfl)) rfl rfl)) (callTF hc3_13 (fun ww _ => ref_digit d ww)) rfl
            · intro oo aa ww LL hho hho2 haft st; obtain rfl := Option.some.inj hho; exact payF_pick st (by decide) (st.wantF haft rfl (by kernel_rfl) rfl) rfl (st.argF (j := 9) (aft_of haft (by kernel_rfl)) rfl rfl) (st.argF (j := 13) (aft_of haft (by kernel_rfl)) rfl rfl) rfl
            · intro oo aa ww LL hho hho2 haft st; obtain rfl := Option.some.inj hho; exact payF_move st (by decide) (st.wantF haft rfl (by kernel_rfl) rfl) rfl (st.argF (j := 14) (aft_of haft (by kernel_rfl)) rfl rfl) rfl
            · intro oo aa ww LL hho hho2 haft st; obtain rfl := Option.some.inj hho; exact payF_move st (by decide) (st.wantF haft rfl (by kernel_rfl) rfl) rfl (st.outV (by kernel_rfl) e0) rfl
            · intro oo aa ww LL hho hho2 haft st; obtain rfl := Option.some.inj hho; exact payF_move st (by decide) (st.wantF haft rfl (by kernel_rfl) rfl) rfl (st.outV (by kernel_rfl) e6) rfl
            · intro oo aa ww LL hho hho2 haft st; obtain rfl := Option.some.inj hho; exact payF st (by decide) (st.wantF haft rfl (by kernel_rfl) rfl) (fun ww hF => by obtain ⟨x4, hB⟩ := hF; exact run_idxS (k := e) rfl (st.argF (j := 16) (aft_of haft (by kernel_rfl)) rfl rfl) (st.argF (j := 17) (aft_of haft (by kernel_rfl)) rfl rfl) hde) rfl
            · intro oo aa ww LL hho hho2 haft st; obtain rfl := Option.some.inj hho; exact payF st (by decide) (st.wantF haft rfl (by kernel_rfl) rfl) (fun ww hF => by obtain ⟨x4, hB⟩ := hF; exact (run_eq8 rfl (st.argF (j := 18) (aft_of haft (by kernel_rfl)) rfl rfl) rfl).trans (okB (c := false) hc3_19)) rfl
            · intro oo aa ww LL hho hho2 haft st; obtain rfl := Option.some.inj hho; exact payF_pick st (by decide) (st.wantF haft rfl (by kernel_rfl) rfl) rfl (st.argF (j := 15) (aft_of haft (by kernel_rfl)) rfl rfl) (st.argF (j := 19) (aft_of haft (by kernel_rfl)) rfl rfl) rfl
            · intro oo aa ww LL hho hho2 haft st; obtain rfl := Option.some.inj hho; exact payF_pick st (by decide) (want_none rfl) rfl (st.argF (j := 4) (aft_of haft (by kernel_rfl)) rfl rfl) (st.argF (j := 20) (aft_of haft (by kernel_rfl)) rfl rfl) rfl
          have k12 : KeepM 11 [] a5 a12 := st.keepM (by kernel_rfl)
          have hgf := st.g
          unfold GF at hgf
          have e37 : a12.eval (.tmp 37) = (.bool false) := st.argF (j := 21) (hL 21 (by omega)) rfl rfl
          clear hF0 hCF hCX hS x4 hB
          replace hgf := hgf.1
          obtain ⟨x4, hB⟩ := hgf
          clear st hL L
          replace e0 := k12.ev e0 (by decide)
          replace e1 := k12.ev e1 (by decide)
          replace e4 := k12.ev e4 (by decide)
          replace e5 := k12.ev e5 (by decide)
          replace e6 := k12.ev e6 (by decide)
          replace hz := k12.size.trans hz
          replace hd := k12.defers.trans hd
          replace kk0 := kk0.trans (k12.mono (ys := [6]) (by decide))
          have hS := hB.size
          have hv : wordB d = false := by unfold wordB; rw [hc3_8, hc3_13, hc3_19]; try rfl
          refine wp_cond_false e37 ?_
          refine wp_exit ?_
          refine exit_here1 (id := 0) ?_
          have htw : (l.drop p).take (e - p) = (l.drop p).takeWhile wordB := tw_eq hpe hel hall (fun c hc => by rw [hde] at hc; rw [← Option.some.inj hc]; exact hv)
          refine wp_seq ?_
          have hCF : Calm (fun wq => Below w0.heap.size w0 wq) := fun _ _ hb hF => by have hB : Below w0.heap.size w0 _ := hF; exact Below.next hB hb
          have hCX : ∀ bb : Bool, Calm ((fun bb wq => RowT wq b4 35 (bif bb then (tokC (((kindOf ((l.drop p).take (e - p))) : Nat) : Int) ((l.drop p).take (e - p)) 0 ((p : Nat) : Int)) else (tokC 0 [] 0 0))) bb) := fun _ _ _ hb hF => hF.below hb hF.lt
          have hF0 : (fun wq => Below w0.heap.size w0 wq) w12 := hB
          refine region_f (n := 13) [some (Str l), some (.int .i64 ((p : Nat) : Int)), some (.int .i64 ((e : Nat) : Int)), some (Str ((l.drop p).take (e - p))), some (.int .i64 (((kindOf ((l.drop p).take (e - p))) : Nat) : Int)), some (Str l), some (.int .i64 ((p : Nat) : Int)), some (.int .i64 ((e : Nat) : Int)), some (Str ((l.drop p).take (e - p))), some (.int .i64 ((p : Nat) : Int)), some (.agg (tokC (((kindOf ((l.drop p).take (e - p))) : Nat) : Int) ((l.drop p).take (e - p)) 0 ((p : Nat) : Int)).toArray), none, some (.bool true)] 11 (fun wq => Below w0.heap.size w0 wq) (fun bb wq => RowT wq b4 35 (bif bb then (tokC (((kindOf ((l.drop p).take (e - p))) : Nat) : Int) ((l.drop p).take (e - p)) 0 ((p : Nat) : Int)) else (tokC 0 [] 0 0))) hCF (hCX false) hF0 x4 (by kernel_rfl) (by rw [hz]; kernel_rfl) (by kernel_rfl) (by kernel_rfl) (by kernel_rfl) (by kernel_rfl) ?_ fun L a13 w13 hL st => ?_
          · refine ⟨⟨⟨⟨⟨⟨⟨⟨⟨⟨⟨⟨⟨trivial, ?_⟩, ?_⟩, ?_⟩, ?_⟩, ?_⟩, ?_⟩, ?_⟩, ?_⟩, ?_⟩, ?_⟩, ?_⟩, ?_⟩, ?_⟩
            · intro oo aa ww LL hho hho2 haft st; obtain rfl := Option.some.inj hho; exact payF_move st (by decide) (want_none rfl) rfl (st.outV (by kernel_rfl) e0) rfl
            · intro oo aa ww LL hho hho2 haft st; obtain rfl := Option.some.inj hho; exact payF_move st (by decide) (want_none rfl) rfl (st.outV (by kernel_rfl) e1) rfl
            · intro oo aa ww LL hho hho2 haft st; obtain rfl := Option.some.inj hho; exact payF_move st (by decide) (want_none rfl) rfl (st.outV (by kernel_rfl) e6) rfl
            · intro oo aa ww LL hho hho2 haft st; obtain rfl := Option.some.inj hho; exact payF st (by decide) (want_none rfl) (fun ww hF => by have hB : Below w0.heap.size w0 _ := hF; exact run_slcS rfl (st.argF (j := 0) (aft_of haft (by kernel_rfl)) rfl rfl) (st.argF (j := 1) (aft_of haft (by kernel_rfl)) rfl rfl) (st.argF (j := 2) (aft_of haft (by kernel_rfl)) rfl rfl) hpe hel) rfl
            · intro oo aa ww LL hho hho2 haft st; obtain rfl := Option.some.inj hho; exact callF st (by decide) hCF hCX (want_none rfl) en_ref_kind rfl (args_one (st.argF (j := 3) (aft_of haft (by kernel_rfl)) rfl rfl)) (fun ww _ => ref_kind ((l.drop p).take (e - p)) ww) rfl
            · intro oo aa ww LL hho hho2 haft st; obtain rfl := Option.some.inj hho; exact payF_move st (by decide) (want_none rfl) rfl (st.outV (by kernel_rfl) e0) rfl
            · intro oo aa ww LL hho hho2 haft st; obtain rfl := Option.some.inj hho; exact payF_move st (by decide) (want_none rfl) rfl (st.outV (by kernel_rfl) e1) rfl
            · intro oo aa ww LL hho hho2 haft st; obtain rfl := Option.some.inj hho; exact payF_move st (by decide) (want_none rfl) rfl (st.outV (by kernel_rfl) e6) rfl
            · intro oo aa ww LL hho hho2 haft st; obtain rfl := Option.some.inj hho; exact payF st (by decide) (want_none rfl) (fun ww hF => by have hB : Below w0.heap.size w0 _ := hF; exact run_slcS rfl (st.argF (j := 5) (aft_of haft (by kernel_rfl)) rfl rfl) (st.argF (j := 6) (aft_of haft (by kernel_rfl)) rfl rfl) (st.argF (j := 7) (aft_of haft (by kernel_rfl)) rfl rfl) hpe hel) rfl
            · intro oo aa ww LL hho hho2 haft st; obtain rfl := Option.some.inj hho; exact payF_move st (by decide) (want_none rfl) rfl (st.outV (by kernel_rfl) e1) rfl
            · intro oo aa ww LL hho hho2 haft st; obtain rfl := Option.some.inj hho; exact payF st (by decide) (want_none rfl) (fun ww hF => by have hB : Below w0.heap.size w0 _ := hF; exact run_tok013 rfl (st.argF (j := 4) (aft_of haft (by kernel_rfl)) rfl rfl) (st.argF (j := 8) (aft_of haft (by kernel_rfl)) rfl rfl) (st.argF (j := 9) (aft_of haft (by kernel_rfl)) rfl rfl)) rfl
            · intro oo aa ww LL hho hho2 haft st; obtain rfl := Option.some.inj hho; exact storeF st hho2 (want_none rfl) (fun ww hF hX => by have hB : Below w0.heap.size w0 _ := hF; exact ⟨_, run_stTok rfl (st.outV (by kernel_rfl) e4) (st.argF (j := 10) (aft_of haft (by kernel_rfl)) rfl rfl) hX rfl, below_setCells hB hge4 (tokC (((kindOf ((l.drop p).take (e - p))) : Nat) : Int) ((l.drop p).take (e - p)) 0 ((p : Nat) : Int)) 0, hX.setTok rfl (((kindOf ((l.drop p).take (e - p))) : Nat) : Int) ((l.drop p).take (e - p)) 0 ((p : Nat) : Int)⟩) rfl
            · intro oo aa ww LL hho hho2 haft st; obtain rfl := Option.some.inj hho; exact payF st (by decide) (want_none rfl) (fun _ _ => run_assignV rfl rfl) rfl
          have k13 : KeepM 11 [5] a12 a13 := st.keepM (by kernel_rfl)
          have hgf := st.g
          unfold GF at hgf
          have e5 : a13.eval (.tmp 5) = (.bool true) := st.argF (j := 12) (hL 12 (by omega)) rfl rfl
          rw [hL 11 (by omega)] at hgf
          clear hF0 hCF hCX hS hB x4
          obtain ⟨hB, x4⟩ := hgf
          simp only [cond_true] at x4
          clear st hL L
          replace e0 := k13.ev e0 (by decide)
          replace e1 := k13.ev e1 (by decide)
          replace e4 := k13.ev e4 (by decide)
          replace e6 := k13.ev e6 (by decide)
          replace hz := k13.size.trans hz
          replace hd := k13.defers.trans hd
          have hS := hB.size
          refine wp_ret ?_
          exact post_tokB rfl hd e4 x4 e5 (by intro h; cases h) ⟨by rw [htw]; rfl, hB⟩
  · have hCF : Calm (fun wq => RowT wq b4 35 (tokC 0 [] 0 0) ∧ Below w0.heap.size w0 wq) := fun _ _ hb hF => by obtain ⟨x4, hB⟩ := hF; exact ⟨x4.below hb x4.lt, Below.next hB hb⟩
    have hCX : ∀ bb : Bool, Calm ((fun (_ : Bool) (_ : World) => True) bb) := fun _ _ _ _ _ => trivial
    have hF0 : (fun wq => RowT wq b4 35 (tokC 0 [] 0 0) ∧ Below w0.heap.size w0 wq) w5 := ⟨x4, hB⟩
    refine region_fs (n := 22) [some (.int .i64 ((e : Nat) : Int)), some (Str l), some (.int .i64 ((l.length : Nat) : Int)), some (.bool false), some (.bool false), some undef, some undef, some undef, some undef, some undef, some undef, some undef, some undef, some undef, some undef, some undef, some undef, some undef, some undef, some undef, some undef, some (.bool false)] 22 (fun wq => RowT wq b4 35 (tokC 0 [] 0 0) ∧ Below w0.heap.size w0 wq) (fun _ _ => True) hF0 trivial (by rw [hz]; kernel_rfl) (by kernel_rfl) (by kernel_rfl) (by kernel_rfl) ?_ fun L a14 w14 hL st => ?_
    · refine ⟨⟨⟨⟨⟨⟨⟨⟨⟨⟨⟨⟨⟨⟨⟨⟨⟨⟨⟨⟨⟨⟨trivial, ?_⟩, ?_⟩, ?_⟩, ?_⟩, ?_⟩, ?_⟩, ?_⟩, ?_⟩, ?_⟩, ?_⟩, ?_⟩, ?_⟩, ?_⟩, ?_⟩, ?_⟩, ?_⟩, ?_⟩, ?_⟩, ?_⟩, ?_⟩, ?_⟩, ?_⟩
      · intro oo aa ww LL hho hho2 haft st; obtain rfl := Option.some.inj hho; exact payF_move st (by decide) (want_none rfl) rfl (st.outV (by kernel_rfl) e6) rfl
      · intro oo aa ww LL hho hho2 haft st; obtain rfl := Option.some.inj hho; exact payF_move st (by decide) (want_none rfl) rfl (st.outV (by kernel_rfl) e0) rfl
      · intro oo aa ww LL hho hho2 haft st; obtain rfl := Option.some.inj hho; exact payF st (by decide) (want_none rfl) (fun ww hF => by obtain ⟨x4, hB⟩ := hF; exact run_lenS rfl (st.argF (j := 1) (aft_of haft (by kernel_rfl)) rfl rfl)) rfl
      · intro oo aa ww LL hho hho2 haft st; obtain rfl := Option.some.inj hho; exact payF st (by decide) (want_none rfl) (fun ww hF => by obtain ⟨x4, hB⟩ := hF; exact (run_ltI rfl (st.argF (j := 0) (aft_of haft (by kernel_rfl)) rfl rfl) (st.argF (j := 2) (aft_of haft (by kernel_rfl)) rfl rfl)).trans (okB (c := false) (decide_eq_false (by omega)))) rfl
      · intro oo aa ww LL hho hho2 haft st; obtain rfl := Option.some.inj hho; exact payF_move st (by decide) (want_none rfl) rfl (st.argF (j := 3) (aft_of haft (by kernel_rfl)) rfl rfl) rfl
      · intro oo aa ww LL hho hho2 haft st; obtain rfl := Option.some.inj hho; exact st.skipF (by decide) haft rfl (by kernel_rfl) rfl (.inl rfl) rfl
      · intro oo aa ww LL hho hho2 haft st; obtain rfl := Option.some.inj hho; exact st.skipF (by decide) haft rfl (by kernel_rfl) rfl (.inl rfl) rfl
      · intro oo aa ww LL hho hho2 haft st; obtain rfl := Option.some.inj hho; exact st.skipF (by decide) haft rfl (by kernel_rfl) rfl (.inl rfl) rfl
      · intro oo aa ww LL hho hho2 haft st; obtain rfl := Option.some.inj hho; exact st.skipF (by decide) haft rfl (by kernel_rfl) rfl (.inl rfl) rfl
      · intro oo aa ww LL hho hho2 haft st; obtain rfl := Option.some.inj hho; exact st.skipF (by decide) haft rfl (by kernel_rfl) rfl (.inl rfl) rfl
      · intro oo aa ww LL hho hho2 haft st; obtain rfl := Option.some.inj hho; exact st.skipF (by decide) haft rfl (by kernel_rfl) rfl (.inr rfl) rfl
      · intro oo aa ww LL hho hho2 haft st; obtain rfl := Option.some.inj hho; exact st.skipF (by decide) haft rfl (by kernel_rfl) rfl (.inr rfl) rfl
      · intro oo aa ww LL hho hho2 haft st; obtain rfl := Option.some.inj hho; exact st.skipF (by decide) haft rfl (by kernel_rfl) rfl (.inr rfl) rfl
      · intro oo aa ww LL hho hho2 haft st; obtain rfl := Option.some.inj hho; exact st.skipF (by decide) haft rfl (by kernel_rfl) rfl (.inr rfl) rfl
      · intro oo aa ww LL hho hho2 haft st; obtain rfl := Option.some.inj hho; exact st.skipF (by decide) haft rfl (by kernel_rfl) rfl (.inl rfl) rfl
      · intro oo aa ww LL hho hho2 haft st; obtain rfl := Option.some.inj hho; exact st.skipF (by decide) haft rfl (by kernel_rfl) rfl (.inl rfl) rfl
      · intro oo aa ww LL hho hho2 haft st; obtain rfl := Option.some.inj hho; exact st.skipF (by decide) haft rfl (by kernel_rfl) rfl (.inr rfl) rfl
      · intro oo aa ww LL hho hho2 haft st; obtain rfl := Option.some.inj hho; exact st.skipF (by decide) haft rfl (by kernel_rfl) rfl (.inr rfl) rfl
      · intro oo aa ww LL hho hho2 haft st; obtain rfl := Option.some.inj hho; exact st.skipF (by decide) haft rfl (by kernel_rfl) rfl (.inr rfl) rfl
      · intro oo aa ww LL hho hho2 haft st; obtain rfl := Option.some.inj hho; exact st.skipF (by decide) haft rfl (by kernel_rfl) rfl (.inr rfl) rfl
      · intro oo aa ww LL hho hho2 haft st; obtain rfl := Option.some.inj hho; exact st.skipF (by decide) haft rfl (by kernel_rfl) rfl (.inl rfl) rfl
      · intro oo aa ww LL hho hho2 haft st; obtain rfl := Option.some.inj hho; exact payF_pick st (by decide) (want_none rfl) rfl (st.argF (j := 4) (aft_of haft (by kernel_rfl)) rfl rfl) rfl rfl
    have k14 : KeepM 11 [] a5 a14 := st.keepM (by kernel_rfl)
    have hgf := st.g
    unfold GF at hgf
    have e37 : a14.eval (.tmp 37) = (.bool false) := st.argF (j := 21) (hL 21 (by omega)) rfl rfl
    clear hF0 hCF hCX hS x4 hB
    replace hgf := hgf.1
    obtain ⟨x4, hB⟩ := hgf
    clear st hL L
    replace e0 := k14.ev e0 (by decide)
    replace e1 := k14.ev e1 (by decide)
    replace e4 := k14.ev e4 (by decide)
    replace e5 := k14.ev e5 (by decide)
    replace e6 := k14.ev e6 (by decide)
    replace hz := k14.size.trans hz
    replace hd := k14.defers.trans hd
    replace kk0 := kk0.trans (k14.mono (ys := [6]) (by decide))
    have hS := hB.size
    refine wp_cond_false e37 ?_
    refine wp_exit ?_
    refine exit_here1 (id := 0) ?_
    have hel2 : e = l.length := by omega
    have htw : (l.drop p).take (e - p) = (l.drop p).takeWhile wordB := tw_eq hpe hel hall (fun c hc => by rw [hel2, List.getElem?_eq_none (Nat.le_refl _)] at hc; cases hc)
    refine wp_seq ?_
    have hCF : Calm (fun wq => Below w0.heap.size w0 wq) := fun _ _ hb hF => by have hB : Below w0.heap.size w0 _ := hF; exact Below.next hB hb
    have hCX : ∀ bb : Bool, Calm ((fun bb wq => RowT wq b4 35 (bif bb then (tokC (((kindOf ((l.drop p).take (e - p))) : Nat) : Int) ((l.drop p).take (e - p)) 0 ((p : Nat) : Int)) else (tokC 0 [] 0 0))) bb) := fun _ _ _ hb hF => hF.below hb hF.lt
    have hF0 : (fun wq => Below w0.heap.size w0 wq) w14 := hB
    refine region_f (n := 13) [some (Str l), some (.int .i64 ((p : Nat) : Int)), some (.int .i64 ((e : Nat) : Int)), some (Str ((l.drop p).take (e - p))), some (.int .i64 (((kindOf ((l.drop p).take (e - p))) : Nat) : Int)), some (Str l), some (.int .i64 ((p : Nat) : Int)), some (.int .i64 ((e : Nat) : Int)), some (Str ((l.drop p).take (e - p))), some (.int .i64 ((p : Nat) : Int)), some (.agg (tokC (((kindOf ((l.drop p).take (e - p))) : Nat) : Int) ((l.drop p).take (e - p)) 0 ((p : Nat) : Int)).toArray), none, some (.bool true)] 11 (fun wq => Below w0.heap.size w0 wq) (fun bb wq => RowT wq b4 35 (bif bb then (tokC (((kindOf ((l.drop p).take (e - p))) : Nat) : Int) ((l.drop p).take (e - p)) 0 ((p : Nat) : Int)) else (tokC 0 [] 0 0))) hCF (hCX false) hF0 x4 (by kernel_rfl) (by rw [hz]; kernel_rfl) (by kernel_rfl) (by kernel_rfl) (by kernel_rfl) (by kernel_rfl) ?_ fun L a15 w15 hL st => ?_
    · refine ⟨⟨⟨⟨⟨⟨⟨⟨⟨⟨⟨⟨⟨trivial, ?_⟩, ?_⟩, ?_⟩, ?_⟩, ?_⟩, ?_⟩, ?_⟩, ?_⟩, ?_⟩, ?_⟩, ?_⟩, ?_⟩, ?_⟩
      · intro oo aa ww LL hho hho2 haft st; obtain rfl := Option.some.inj hho; exact payF_move st (by decide) (want_none rfl) rfl (st.outV (by kernel_rfl) e0) rfl
      · intro oo aa ww LL hho hho2 haft st; obtain rfl := Option.some.inj hho; exact payF_move st (by decide) (want_none rfl) rfl (st.outV (by kernel_rfl) e1) rfl
      · intro oo aa ww LL hho hho2 haft st; obtain rfl := Option.some.inj hho; exact payF_move st (by decide) (want_none rfl) rfl (st.outV (by kernel_rfl) e6) rfl
      · intro oo aa ww LL hho hho2 haft st; obtain rfl := Option.some.inj hho; exact payF st (by decide) (want_none rfl) (fun ww hF => by have hB : Below w0.heap.size w0 _ := hF; exact run_slcS rfl (st.argF (j := 0) (aft_of haft (by kernel_rfl)) rfl rfl) (st.argF (j := 1) (aft_of haft (by kernel_rfl)) rfl rfl) (st.argF (j := 2) (aft_of haft (by kernel_rfl)) rfl rfl) hpe hel) rfl
      · intro oo aa ww LL hho hho2 haft st; obtain rfl := Option.some.inj hho; exact callF st (by decide) hCF hCX (want_none rfl) en_ref_kind rfl (args_one (st.argF (j := 3) (aft_of haft (by kernel_rfl)) rfl rfl)) (fun ww _ => ref_kind ((l.drop p).take (e - p)) ww) rfl
      · intro oo aa ww LL hho hho2 haft st; obtain rfl := Option.some.inj hho; exact payF_move st (by decide) (want_none rfl) rfl (st.outV (by kernel_rfl) e0) rfl
      · intro oo aa ww LL hho hho2 haft st; obtain rfl := Option.some.inj hho; exact payF_move st (by decide) (want_none rfl) rfl (st.outV (by kernel_rfl) e1) rfl
      · intro oo aa ww LL hho hho2 haft st; obtain rfl := Option.some.inj hho; exact payF_move st (by decide) (want_none rfl) rfl (st.outV (by kernel_rfl) e6) rfl
      · intro oo aa ww LL hho hho2 haft st; obtain rfl := Option.some.inj hho; exact payF st (by decide) (want_none rfl) (fun ww hF => by have hB : Below w0.heap.size w0 _ := hF; exact run_slcS rfl (st.argF (j := 5) (aft_of haft (by kernel_rfl)) rfl rfl) (st.argF (j := 6) (aft_of haft (by kernel_rfl)) rfl rfl) (st.argF (j := 7) (aft_of haft (by kernel_rfl)) rfl rfl) hpe hel) rfl
      · intro oo aa ww LL hho hho2 haft st; obtain rfl := Option.some.inj hho; exact payF_move st (by decide) (want_none rfl) rfl (st.outV (by kernel_rfl) e1) rfl
      · intro oo aa ww LL hho hho2 haft st; obtain rfl := Option.some.inj hho; exact payF st (by decide) (want_none rfl) (fun ww hF => by have hB : Below w0.heap.size w0 _ := hF; exact run_tok013 rfl (st.argF (j := 4) (aft_of haft (by kernel_rfl)) rfl rfl) (st.argF (j := 8) (aft_of haft (by kernel_rfl)) rfl rfl) (st.argF (j := 9) (aft_of haft (by kernel_rfl)) rfl rfl)) rfl
      · intro oo aa ww LL hho hho2 haft st; obtain rfl := Option.some.inj hho; exact storeF st hho2 (want_none rfl) (fun ww hF hX => by have hB : Below w0.heap.size w0 _ := hF; exact ⟨_, run_stTok rfl (st.outV (by kernel_rfl) e4) (st.argF (j := 10) (aft_of haft (by kernel_rfl)) rfl rfl) hX rfl, below_setCells hB hge4 (tokC (((kindOf ((l.drop p).take (e - p))) : Nat) : Int) ((l.drop p).take (e - p)) 0 ((p : Nat) : Int)) 0, hX.setTok rfl (((kindOf ((l.drop p).take (e - p))) : Nat) : Int) ((l.drop p).take (e - p)) 0 ((p : Nat) : Int)⟩) rfl
      · intro oo aa ww LL hho hho2 haft st; obtain rfl := Option.some.inj hho; exact payF st (by decide) (want_none rfl) (fun _ _ => run_assignV rfl rfl) rfl
    have k15 : KeepM 11 [5] a14 a15 := st.keepM (by kernel_rfl)
    have hgf := st.g
    unfold GF at hgf
    have e5 : a15.eval (.tmp 5) = (.bool true) := st.argF (j := 12) (hL 12 (by omega)) rfl rfl
    rw [hL 11 (by omega)] at hgf
    clear hF0 hCF hCX hS hB x4
    obtain ⟨hB, x4⟩ := hgf
    simp only [cond_true] at x4
    clear st hL L
    replace e0 := k15.ev e0 (by decide)
    replace e1 := k15.ev e1 (by decide)
    replace e4 := k15.ev e4 (by decide)
    replace e6 := k15.ev e6 (by decide)
    replace hz := k15.size.trans hz
    replace hd := k15.defers.trans hd
    have hS := hB.size
    refine wp_ret ?_
    exact post_tokB rfl hd e4 x4 e5 (by intro h; cases h) ⟨by rw [htw]; rfl, hB⟩
set_option maxRecDepth 100000 in
set_option maxHeartbeats 4000000 in
theorem ref_one_num (l : List UInt8) (p : Nat) (w0 : World) {c : UInt8} (hc : l[p]? = some c) (hp : p < l.length) (hlen : l.length ≤ 4611686018427387904) (hlet : isLetter c = false) (hdig : isDigit c = true) : Calls Tryd.prog 27 #[Str l, .int .i64 ((p : Nat) : Int)] w0 (Ret w0 (oneV ((numAt (l.drop p)).map fun n => (3, (l.drop p).takeWhile isDigit, n)) p)) := by
  refine calls_of_wp Tryd.func27 rfl ?_
  obtain ⟨hz, e0, e1⟩ := start_act2 144 ((Str l)) ((.int .i64 ((p : Nat) : Int))) (by decide)
  have hd : ({ tmps := #[(Str l), (.int .i64 ((p : Nat) : Int))] ++ Array.replicate (144 - 2) undef, defers := [] } : Act).defers = [] := rfl
  rw [show Tryd.f27.ntmps - (#[(Str l), (.int .i64 ((p : Nat) : Int))] : Array Value).size = 144 - 2 from rfl]
  generalize ({ tmps := #[(Str l), (.int .i64 ((p : Nat) : Int))] ++ Array.replicate (144 - 2) undef, defers := [] } : Act) = a0 at hz e0 e1 hd ⊢
  have hB : Below w0.heap.size w0 w0 := Below.refl _ _
  have hS := hB.size
  refine wp_seq ?_
  refine seq_startL (l := [0, 1]) (by kernel_rfl) ?_
  refine seq_valD 4 rfl rfl rfl (run_allocTok rfl) ?_
  have x4 := RowT.new w0 35 (tokC 0 [] 0 0)
  replace hB := hB.al (o := .cells ((tokC 0 [] 0 0) : List Value).toArray 35)
  change wpOps _ _ _ _ _ (w0.alloc (.cells ((tokC 0 [] 0 0) : List Value).toArray 35))
  generalize (w0.alloc (.cells ((tokC 0 [] 0 0) : List Value).toArray 35)) = w1 at x4 hB ⊢
  generalize hbq4 : w0.heap.size = b4 at x4 ⊢
  have hge4 : w0.heap.size ≤ b4 := by rw [← hbq4]; exact hS
  clear hbq4
  have hS := hB.size
  refine seq_assign 5 (v := (.bool false)) rfl rfl rfl rfl rfl ?_
  refine seq_nil ?_
  refine seq_out (((KeepM.refl 11 [4, 5] a0).put (by decide)).put (by decide)) fun a2 k2 tr => ?_
  have f4 := tr 4 (.pointer (some ⟨b4, 0, none⟩)) ((ev_ne (by decide)).trans (ev_same (by first | (rw [hz]; decide) | (simp only [size_put, hz]; decide))))
  have f5 := tr 5 (.bool false) (ev_same (by first | (rw [hz]; decide) | (simp only [size_put, hz]; decide)))
  clear tr
  replace e0 := k2.ev e0 (by decide)
  replace e1 := k2.ev e1 (by decide)
  replace hz := k2.size.trans hz
  replace hd := k2.defers.trans hd
  have e4 := f4
  clear f4
  have e5 := f5
  clear f5
  refine wp_seq ?_
  refine seq_startL (l := [0, 1]) (by kernel_rfl) ?_
  refine seq_move 11 (v := (.int .i64 ((p : Nat) : Int))) rfl rfl rfl rfl e1 ?_
  refine seq_assign 6 (v := (.int .i64 ((p : Nat) : Int))) rfl rfl rfl rfl (ev_same (by first | (rw [hz]; decide) | (simp only [size_put, hz]; decide))) ?_
  refine seq_nil ?_
  refine seq_out (((KeepM.refl 11 [6] a2).put (by decide)).put (by decide)) fun a3 k3 tr => ?_
  have f6 := tr 6 (.int .i64 ((p : Nat) : Int)) (ev_same (by first | (rw [hz]; decide) | (simp only [size_put, hz]; decide)))
  clear tr
  replace e0 := k3.ev e0 (by decide)
  replace e1 := k3.ev e1 (by decide)
  replace e4 := k3.ev e4 (by decide)
  replace e5 := k3.ev e5 (by decide)
  replace hz := k3.size.trans hz
  replace hd := k3.defers.trans hd
  have e6 := f6
  clear f6
  refine wp_seq ?_
  refine wp_seq ?_
  have hCF : Calm (fun wq => RowT wq b4 35 (tokC 0 [] 0 0) ∧ Below w0.heap.size w0 wq) := fun _ _ hb hF => by obtain ⟨x4, hB⟩ := hF; exact ⟨x4.below hb x4.lt, Below.next hB hb⟩
  have hCX : ∀ bb : Bool, Calm ((fun (_ : Bool) (_ : World) => True) bb) := fun _ _ _ _ _ => trivial
  have hF0 : (fun wq => RowT wq b4 35 (tokC 0 [] 0 0) ∧ Below w0.heap.size w0 wq) w1 := ⟨x4, hB⟩
  refine region_fs (n := 4) [some (Str l), some (.int .i64 ((p : Nat) : Int)), some (.int .u8 ((c.toNat : Nat) : Int)), some (.bool false)] 4 (fun wq => RowT wq b4 35 (tokC 0 [] 0 0) ∧ Below w0.heap.size w0 wq) (fun _ _ => True) hF0 trivial (by rw [hz]; kernel_rfl) (by kernel_rfl) (by kernel_rfl) (by kernel_rfl) ?_ fun L a4 w4 hL st => ?_
  · refine ⟨⟨⟨⟨trivial, ?_⟩, ?_⟩, ?_⟩, ?_⟩
    · intro oo aa ww LL hho hho2 haft st; obtain rfl := Option.some.inj hho; exact payF_move st (by decide) (want_none rfl) rfl (st.outV (by kernel_rfl) e0) rfl
    · intro oo aa ww LL hho hho2 haft st; obtain rfl := Option.some.inj hho; exact payF_move st (by decide) (want_none rfl) rfl (st.outV (by kernel_rfl) e1) rfl
    · intro oo aa ww LL hho hho2 haft st; obtain rfl := Option.some.inj hho; exact payF st (by decide) (want_none rfl) (fun ww hF => by obtain ⟨x4, hB⟩ := hF; exact run_idxS (k := p) rfl (st.argF (j := 0) (aft_of haft (by kernel_rfl)) rfl rfl) (st.argF (j := 1) (aft_of haft (by kernel_rfl)) rfl rfl) hc) rfl
    · intro oo aa ww LL hho hho2 haft st; obtain rfl := Option.some.inj hho; exact callF st (by decide) hCF hCX (want_none rfl) en_ref_letter rfl (args_one (st.argF (j := 2) (aft_of haft (by kernel_rfl)) rfl rfl)) (callTF hlet (fun ww _ => ref_letter c ww)) rfl
  have k4 : KeepM 11 [] a3 a4 := st.keepM (by kernel_rfl)
  have hgf := st.g
  unfold GF at hgf
  have e15 : a4.eval (.tmp 15) = (.bool false) := st.argF (j := 3) (hL 3 (by omega)) rfl rfl
  clear hF0 hCF hCX hS x4 hB
  replace hgf := hgf.1
  obtain ⟨x4, hB⟩ := hgf
  clear st hL L
  replace e0 := k4.ev e0 (by decide)
  replace e1 := k4.ev e1 (by decide)
  replace e4 := k4.ev e4 (by decide)
  replace e5 := k4.ev e5 (by decide)
  replace e6 := k4.ev e6 (by decide)
  replace hz := k4.size.trans hz
  replace hd := k4.defers.trans hd
  have hS := hB.size
  refine wp_cond_false e15 ?_
  refine wp_skip ?_
  refine wp_seq ?_
  refine wp_seq ?_
  have hCF : Calm (fun wq => RowT wq b4 35 (tokC 0 [] 0 0) ∧ Below w0.heap.size w0 wq) := fun _ _ hb hF => by obtain ⟨x4, hB⟩ := hF; exact ⟨x4.below hb x4.lt, Below.next hB hb⟩
  have hCX : ∀ bb : Bool, Calm ((fun (_ : Bool) (_ : World) => True) bb) := fun _ _ _ _ _ => trivial
  have hF0 : (fun wq => RowT wq b4 35 (tokC 0 [] 0 0) ∧ Below w0.heap.size w0 wq) w4 := ⟨x4, hB⟩
  refine region_fs (n := 4) [some (Str l), some (.int .i64 ((p : Nat) : Int)), some (.int .u8 ((c.toNat : Nat) : Int)), some (.bool true)] 4 (fun wq => RowT wq b4 35 (tokC 0 [] 0 0) ∧ Below w0.heap.size w0 wq) (fun _ _ => True) hF0 trivial (by rw [hz]; kernel_rfl) (by kernel_rfl) (by kernel_rfl) (by kernel_rfl) ?_ fun L a5 w5 hL st => ?_
  · refine ⟨⟨⟨⟨trivial, ?_⟩, ?_⟩, ?_⟩, ?_⟩
    · intro oo aa ww LL hho hho2 haft st; obtain rfl := Option.some.inj hho; exact payF_move st (by decide) (want_none rfl) rfl (st.outV (by kernel_rfl) e0) rfl
    · intro oo aa ww LL hho hho2 haft st; obtain rfl := Option.some.inj hho; exact payF_move st (by decide) (want_none rfl) rfl (st.outV (by kernel_rfl) e1) rfl
    · intro oo aa ww LL hho hho2 haft st; obtain rfl := Option.some.inj hho; exact payF st (by decide) (want_none rfl) (fun ww hF => by obtain ⟨x4, hB⟩ := hF; exact run_idxS (k := p) rfl (st.argF (j := 0) (aft_of haft (by kernel_rfl)) rfl rfl) (st.argF (j := 1) (aft_of haft (by kernel_rfl)) rfl rfl) hc) rfl
    · intro oo aa ww LL hho hho2 haft st; obtain rfl := Option.some.inj hho; exact callF st (by decide) hCF hCX (want_none rfl) en_ref_digit rfl (args_one (st.argF (j := 2) (aft_of haft (by kernel_rfl)) rfl rfl)) (callTF hdig (fun ww _ => ref_digit c ww)) rfl
  have k5 : KeepM 11 [] a4 a5 := st.keepM (by kernel_rfl)
  have hgf := st.g
  unfold GF at hgf
  have e54 : a5.eval (.tmp 54) = (.bool true) := st.argF (j := 3) (hL 3 (by omega)) rfl rfl
  clear hF0 hCF hCX hS x4 hB
  replace hgf := hgf.1
  obtain ⟨x4, hB⟩ := hgf
  clear st hL L
  replace e0 := k5.ev e0 (by decide)
  replace e1 := k5.ev e1 (by decide)
  replace e4 := k5.ev e4 (by decide)
  replace e5 := k5.ev e5 (by decide)
  replace e6 := k5.ev e6 (by decide)
  replace hz := k5.size.trans hz
  replace hd := k5.defers.trans hd
  have hS := hB.size
  refine wp_cond_true e54 ?_
  refine wp_seq ?_
  have hno : ∀ (j : Nat) (c : UInt8), p ≤ j → j < p → l[j]? = some c → isDigit c = true := fun j c h h2 => absurd h2 (by omega)
  refine wp_block ?_
  refine wp_loop (fun aq wq => ∃ (e : Nat), (p ≤ e ∧ e ≤ l.length ∧ ∀ (j : Nat) (c : UInt8), p ≤ j → j < e → l[j]? = some c → isDigit c = true) ∧ KeepM 11 [6] a5 aq ∧ aq.eval (.tmp 6) = (.int .i64 ((e : Nat) : Int)) ∧ RowT wq b4 35 (tokC 0 [] 0 0) ∧ Below w0.heap.size w0 wq) (fun aq _ => l.length - (intOf (aq.eval (.tmp 6))).toNat) ⟨p, ⟨Nat.le_refl _, by omega, hno⟩, KeepM.refl _ _ _, e6, x4, hB⟩ ?_
  rintro a6 w6 ⟨e, hk2, kk2, g6, qx4, qB⟩
  replace e0 := kk2.ev e0 (by decide)
  replace e1 := kk2.ev e1 (by decide)
  replace e4 := kk2.ev e4 (by decide)
  replace e5 := kk2.ev e5 (by decide)
  replace hz := kk2.size.trans hz
  replace hd := kk2.defers.trans hd
  clear e6 x4 hB hS
  have e6 := g6
  have x4 := qx4
  have hB := qB
  have hS := hB.size
  clear qx4 qB
  obtain ⟨hpe, hel, hall⟩ := hk2
  have e6s := e6
  refine wp_seq ?_
  refine wp_seq ?_
  by_cases hlt : e < l.length
  · obtain ⟨d, hde⟩ : ∃ d, l[e]? = some d := ⟨_, List.getElem?_eq_getElem hlt⟩
    cases hc7_8 : (isDigit d : Bool) with
    | true =>
      have hCF : Calm (fun wq => RowT wq b4 35 (tokC 0 [] 0 0) ∧ Below w0.heap.size w0 wq) := fun _ _ hb hF => by obtain ⟨x4, hB⟩ := hF; exact ⟨x4.below hb x4.lt, Below.next hB hb⟩
      have hCX : ∀ bb : Bool, Calm ((fun (_ : Bool) (_ : World) => True) bb) := fun _ _ _ _ _ => trivial
      have hF0 : (fun wq => RowT wq b4 35 (tokC 0 [] 0 0) ∧ Below w0.heap.size w0 wq) w6 := ⟨x4, hB⟩
      refine region_fs (n := 10) [some (.int .i64 ((e : Nat) : Int)), some (Str l), some (.int .i64 ((l.length : Nat) : Int)), some (.bool true), some (.bool true), some (Str l), some (.int .i64 ((e : Nat) : Int)), some (.int .u8 ((d.toNat : Nat) : Int)), some (.bool true), some (.bool true)] 10 (fun wq => RowT wq b4 35 (tokC 0 [] 0 0) ∧ Below w0.heap.size w0 wq) (fun _ _ => True) hF0 trivial (by rw [hz]; kernel_rfl) (by kernel_rfl) (by kernel_rfl) (by kernel_rfl) ?_ fun L a7 w7 hL st => ?_
      · refine ⟨⟨⟨⟨⟨⟨⟨⟨⟨⟨trivial, ?_⟩, ?_⟩, ?_⟩, ?_⟩, ?_⟩, ?_⟩, ?_⟩, ?_⟩, ?_⟩, ?_⟩
        · intro oo aa ww LL hho hho2 haft st; obtain rfl := Option.some.inj hho; exact payF_move st (by decide) (want_none rfl) rfl (st.outV (by kernel_rfl) e6) rfl
        · intro oo aa ww LL hho hho2 haft st; obtain rfl := Option.some.inj hho; exact payF_move st (by decide) (want_none rfl) rfl (st.outV (by kernel_rfl) e0) rfl
        · intro oo aa ww LL hho hho2 haft st; obtain rfl := Option.some.inj hho; exact payF st (by decide) (want_none rfl) (fun ww hF => by obtain ⟨x4, hB⟩ := hF; exact run_lenS rfl (st.argF (j := 1) (aft_of haft (by kernel_rfl)) rfl rfl)) rfl
        · intro oo aa ww LL hho hho2 haft st; obtain rfl := Option.some.inj hho; exact payF st (by decide) (want_none rfl) (fun ww hF => by obtain ⟨x4, hB⟩ := hF; exact (run_ltI rfl (st.argF (j := 0) (aft_of haft (by kernel_rfl)) rfl rfl) (st.argF (j := 2) (aft_of haft (by kernel_rfl)) rfl rfl)).trans (okB (c := true) (decide_eq_true (by omega)))) rfl
        · intro oo aa ww LL hho hho2 haft st; obtain rfl := Option.some.inj hho; exact payF_move st (by decide) (want_none rfl) rfl (st.argF (j := 3) (aft_of haft (by kernel_rfl)) rfl rfl) rfl
        · intro oo aa ww LL hho hho2 haft st; obtain rfl := Option.some.inj hho; exact payF_move st (by decide) (st.wantF haft rfl (by kernel_rfl) rfl) rfl (st.outV (by kernel_rfl) e0) rfl
        · intro oo aa ww LL hho hho2 haft st; obtain rfl := Option.some.inj hho; exact payF_move st (by decide) (st.wantF haft rfl (by kernel_rfl) rfl) rfl (st.outV (by kernel_rfl) e6) rfl
        · intro oo aa ww LL hho hho2 haft st; obtain rfl := Option.some.inj hho; exact payF st (by decide) (st.wantF haft rfl (by kernel_rfl) rfl) (fun ww hF => by obtain ⟨x4, hB⟩ := hF; exact run_idxS (k := e) rfl (st.argF (j := 5) (aft_of haft (by kernel_rfl)) rfl rfl) (st.argF (j := 6) (aft_of haft (by kernel_rfl)) rfl rfl) hde) rfl
        · intro oo aa ww LL hho hho2 haft st; obtain rfl := Option.some.inj hho; exact callF st (by decide) hCF hCX (st.wantF haft rfl (by kernel_rfl) rfl) en_ref_digit rfl (args_one (st.argF (j := 7) (aft_of haft (by kernel_rfl)) rfl rfl)) (callTF hc7_8 (fun ww _ => ref_digit d ww)) rfl
        · intro oo aa ww LL hho hho2 haft st; obtain rfl := Option.some.inj hho; exact payF_pick st (by decide) (want_none rfl) rfl (st.argF (j := 4) (aft_of haft (by kernel_rfl)) rfl rfl) (st.argF (j := 8) (aft_of haft (by kernel_rfl)) rfl rfl) rfl
      have k7 : KeepM 11 [] a6 a7 := st.keepM (by kernel_rfl)
      have hgf := st.g
      unfold GF at hgf
      have e64 : a7.eval (.tmp 64) = (.bool true) := st.argF (j := 9) (hL 9 (by omega)) rfl rfl
      clear hF0 hCF hCX hS x4 hB
      replace hgf := hgf.1
      obtain ⟨x4, hB⟩ := hgf
      clear st hL L
      replace e0 := k7.ev e0 (by decide)
      replace e1 := k7.ev e1 (by decide)
      replace e4 := k7.ev e4 (by decide)
      replace e5 := k7.ev e5 (by decide)
      replace e6 := k7.ev e6 (by decide)
      replace hz := k7.size.trans hz
      replace hd := k7.defers.trans hd
      replace kk2 := kk2.trans (k7.mono (ys := [6]) (by decide))
      have hS := hB.size
      have hv : isDigit d = true := hc7_8
      refine wp_cond_true e64 ?_
      refine wp_skip ?_
      refine wp_block ?_
      refine seq_startL (l := [0, 1, 2]) (by kernel_rfl) ?_
      refine seq_move 65 (v := (.int .i64 ((e : Nat) : Int))) rfl rfl rfl rfl e6 ?_
      refine seq_valD 66 (v := (.int .i64 ((e + 1 : Nat) : Int))) rfl rfl rfl (run_incI rfl (ev_same (by first | (rw [hz]; decide) | (simp only [size_put, hz]; decide))) rfl (by omega)) ?_
      refine seq_assign 6 (v := (.int .i64 ((e + 1 : Nat) : Int))) rfl rfl rfl rfl (ev_same (by first | (rw [hz]; decide) | (simp only [size_put, hz]; decide))) ?_
      refine seq_nil ?_
      refine seq_out ((((KeepM.refl 11 [6] a7).put (by decide)).put (by decide)).put (by decide)) fun a8 k8 tr => ?_
      have f6 := tr 6 (.int .i64 ((e + 1 : Nat) : Int)) (ev_same (by first | (rw [hz]; decide) | (simp only [size_put, hz]; decide)))
      clear tr
      replace e0 := k8.ev e0 (by decide)
      replace e1 := k8.ev e1 (by decide)
      replace e4 := k8.ev e4 (by decide)
      replace e5 := k8.ev e5 (by decide)
      replace hz := k8.size.trans hz
      replace hd := k8.defers.trans hd
      replace kk2 := kk2.trans (k8.mono (ys := [6]) (by decide))
      have e6 := f6
      clear f6
      refine ⟨⟨e + 1, ⟨by omega, by omega, fun j c h1 h2 h3 => ?_⟩, kk2, e6, x4, hB⟩, ?_⟩
      · by_cases ej : j = e
        · subst ej; rw [hde] at h3; rw [← Option.some.inj h3]; exact hv
        · exact hall j c h1 (by omega) h3
      · rw [e6, e6s]; simp [intOf]; omega
    | false =>
      have hCF : Calm (fun wq => RowT wq b4 35 (tokC 0 [] 0 0) ∧ Below w0.heap.size w0 wq) := fun _ _ hb hF => by obtain ⟨x4, hB⟩ := hF; exact ⟨x4.below hb x4.lt, Below.next hB hb⟩
      have hCX : ∀ bb : Bool, Calm ((fun (_ : Bool) (_ : World) => True) bb) := fun _ _ _ _ _ => trivial
      have hF0 : (fun wq => RowT wq b4 35 (tokC 0 [] 0 0) ∧ Below w0.heap.size w0 wq) w6 := ⟨x4, hB⟩
      refine region_fs (n := 10) [some (.int .i64 ((e : Nat) : Int)), some (Str l), some (.int .i64 ((l.length : Nat) : Int)), some (.bool true), some (.bool true), some (Str l), some (.int .i64 ((e : Nat) : Int)), some (.int .u8 ((d.toNat : Nat) : Int)), some (.bool false), some (.bool false)] 10 (fun wq => RowT wq b4 35 (tokC 0 [] 0 0) ∧ Below w0.heap.size w0 wq) (fun _ _ => True) hF0 trivial (by rw [hz]; kernel_rfl) (by kernel_rfl) (by kernel_rfl) (by kernel_rfl) ?_ fun L a9 w9 hL st => ?_
      · refine ⟨⟨⟨⟨⟨⟨⟨⟨⟨⟨trivial, ?_⟩, ?_⟩, ?_⟩, ?_⟩, ?_⟩, ?_⟩, ?_⟩, ?_⟩, ?_⟩, ?_⟩
        · intro oo aa ww LL hho hho2 haft st; obtain rfl := Option.some.inj hho; exact payF_move st (by decide) (want_none rfl) rfl (st.outV (by kernel_rfl) e6) rfl
        · intro oo aa ww LL hho hho2 haft st; obtain rfl := Option.some.inj hho; exact payF_move st (by decide) (want_none rfl) rfl (st.outV (by kernel_rfl) e0) rfl
        · intro oo aa ww LL hho hho2 haft st; obtain rfl := Option.some.inj hho; exact payF st (by decide) (want_none rfl) (fun ww hF => by obtain ⟨x4, hB⟩ := hF; exact run_lenS rfl (st.argF (j := 1) (aft_of haft (by kernel_rfl)) rfl rfl)) rfl
        · intro oo aa ww LL hho hho2 haft st; obtain rfl := Option.some.inj hho; exact payF st (by decide) (want_none rfl) (fun ww hF => by obtain ⟨x4, hB⟩ := hF; exact (run_ltI rfl (st.argF (j := 0) (aft_of haft (by kernel_rfl)) rfl rfl) (st.argF (j := 2) (aft_of haft (by kernel_rfl)) rfl rfl)).trans (okB (c := true) (decide_eq_true (by omega)))) rfl
        · intro oo aa ww LL hho hho2 haft st; obtain rfl := Option.some.inj hho; exact payF_move st (by decide) (want_none rfl) rfl (st.argF (j := 3) (aft_of haft (by kernel_rfl)) rfl rfl) rfl
        · intro oo aa ww LL hho hho2 haft st; obtain rfl := Option.some.inj hho; exact payF_move st (by decide) (st.wantF haft rfl (by kernel_rfl) rfl) rfl (st.outV (by kernel_rfl) e0) rfl
        · intro oo aa ww LL hho hho2 haft st; obtain rfl := Option.some.inj hho; exact payF_move st (by decide) (st.wantF haft rfl (by kernel_rfl) rfl) rfl (st.outV (by kernel_rfl) e6) rfl
        · intro oo aa ww LL hho hho2 haft st; obtain rfl := Option.some.inj hho; exact payF st (by decide) (st.wantF haft rfl (by kernel_rfl) rfl) (fun ww hF => by obtain ⟨x4, hB⟩ := hF; exact run_idxS (k := e) rfl (st.argF (j := 5) (aft_of haft (by kernel_rfl)) rfl rfl) (st.argF (j := 6) (aft_of haft (by kernel_rfl)) rfl rfl) hde) rfl
        · intro oo aa ww LL hho hho2 haft st; obtain rfl := Option.some.inj hho; exact callF st (by decide) hCF hCX (st.wantF haft rfl (by kernel_rfl) rfl) en_ref_digit rfl (args_one (st.argF (j := 7) (aft_of haft (by kernel_rfl)) rfl rfl)) (callTF hc7_8 (fun ww _ => ref_digit d ww)) rfl
        · intro oo aa ww LL hho hho2 haft st; obtain rfl := Option.some.inj hho; exact payF_pick st (by decide) (want_none rfl) rfl (st.argF (j := 4) (aft_of haft (by kernel_rfl)) rfl rfl) (st.argF (j := 8) (aft_of haft (by kernel_rfl)) rfl rfl) rfl
      have k9 : KeepM 11 [] a6 a9 := st.keepM (by kernel_rfl)
      have hgf := st.g
      unfold GF at hgf
      have e64 : a9.eval (.tmp 64) = (.bool false) := st.argF (j := 9) (hL 9 (by omega)) rfl rfl
      clear hF0 hCF hCX hS x4 hB
      replace hgf := hgf.1
      obtain ⟨x4, hB⟩ := hgf
      clear st hL L
      replace e0 := k9.ev e0 (by decide)
      replace e1 := k9.ev e1 (by decide)
      replace e4 := k9.ev e4 (by decide)
      replace e5 := k9.ev e5 (by decide)
      replace e6 := k9.ev e6 (by decide)
      replace hz := k9.size.trans hz
      replace hd := k9.defers.trans hd
      replace kk2 := kk2.trans (k9.mono (ys := [6]) (by decide))
      have hS := hB.size
      have hv : isDigit d = false := hc7_8
      refine wp_cond_false e64 ?_
      refine wp_exit ?_
      refine exit_here1 (id := 2) ?_
      have htw : (l.drop p).take (e - p) = (l.drop p).takeWhile isDigit := tw_eq hpe hel hall (fun c hc => by rw [hde] at hc; rw [← Option.some.inj hc]; exact hv)
      have hdg : ∀ c ∈ (l.drop p).take (e - p), 48 ≤ c.toNat ∧ c.toNat ≤ 57 := dig_of hall
      refine wp_seq ?_
      refine seq_startL (l := [0, 1, 2, 3, 4, 5, 6, 7, 8, 9]) (by kernel_rfl) ?_
      refine seq_move 68 (v := (Str l)) rfl rfl rfl rfl e0 ?_
      refine seq_move 69 (v := (.int .i64 ((p : Nat) : Int))) rfl rfl rfl rfl ((ev_ne (by decide)).trans e1) ?_
      refine seq_move 70 (v := (.int .i64 ((e : Nat) : Int))) rfl rfl rfl rfl ((ev_ne (by decide)).trans ((ev_ne (by decide)).trans e6)) ?_
      refine seq_valD 71 (v := (Str ((l.drop p).take (e - p)))) rfl rfl rfl (run_slcS rfl ((ev_ne (by decide)).trans ((ev_ne (by decide)).trans (ev_same (by first | (rw [hz]; decide) | (simp only [size_put, hz]; decide))))) ((ev_ne (by decide)).trans (ev_same (by first | (rw [hz]; decide) | (simp only [size_put, hz]; decide)))) (ev_same (by first | (rw [hz]; decide) | (simp only [size_put, hz]; decide))) hpe hel) ?_
      refine seq_callD 72 rfl rfl rfl en_ref_number rfl (args_one (ev_same (by first | (rw [hz]; decide) | (simp only [size_put, hz]; decide)))) ((ref_number ((l.drop p).take (e - p)) w9 hdg).mono ?_)
      rintro e w10 ⟨rfl, hb10⟩
      refine ⟨_, rfl, ?_⟩
      replace x4 := x4.below hb10 x4.lt
      replace hB := Below.next hB hb10
      replace hS := hB.size
      refine seq_move 67 (v := (.tuple #[.int .i64 (numOf ((l.drop p).take (e - p))).1, .bool (numOf ((l.drop p).take (e - p))).2])) rfl rfl rfl rfl (ev_same (by first | (rw [hz]; decide) | (simp only [size_put, hz]; decide))) ?_
      refine seq_valD 73 (v := (.int .i64 (numOf ((l.drop p).take (e - p))).1)) rfl rfl rfl (run_ext0 rfl (ev_same (by first | (rw [hz]; decide) | (simp only [size_put, hz]; decide)))) ?_
      refine seq_valD 74 (v := (.bool (numOf ((l.drop p).take (e - p))).2)) rfl rfl rfl (run_ext1 rfl ((ev_ne (by decide)).trans (ev_same (by first | (rw [hz]; decide) | (simp only [size_put, hz]; decide))))) ?_
      refine seq_assign 7 (v := (.int .i64 (numOf ((l.drop p).take (e - p))).1)) rfl rfl rfl rfl ((ev_ne (by decide)).trans (ev_same (by first | (rw [hz]; decide) | (simp only [size_put, hz]; decide)))) ?_
      refine seq_assign 8 (v := (.bool (numOf ((l.drop p).take (e - p))).2)) rfl rfl rfl rfl ((ev_ne (by decide)).trans (ev_same (by first | (rw [hz]; decide) | (simp only [size_put, hz]; decide)))) ?_
      refine seq_nil ?_
      refine seq_out (((((((((((KeepM.refl 11 [7, 8] a9).put (by decide)).put (by decide)).put (by decide)).put (by decide)).put (by decide)).put (by decide)).put (by decide)).put (by decide)).put (by decide)).put (by decide)) fun a11 k11 tr => ?_
      have f7 := tr 7 (.int .i64 (numOf ((l.drop p).take (e - p))).1) ((ev_ne (by decide)).trans (ev_same (by first | (rw [hz]; decide) | (simp only [size_put, hz]; decide))))
      have f8 := tr 8 (.bool (numOf ((l.drop p).take (e - p))).2) (ev_same (by first | (rw [hz]; decide) | (simp only [size_put, hz]; decide)))
      clear tr
      replace e0 := k11.ev e0 (by decide)
      replace e1 := k11.ev e1 (by decide)
      replace e4 := k11.ev e4 (by decide)
      replace e5 := k11.ev e5 (by decide)
      replace e6 := k11.ev e6 (by decide)
      replace hz := k11.size.trans hz
      replace hd := k11.defers.trans hd
      have e7 := f7
      clear f7
      have e8 := f8
      clear f8
      refine wp_seq ?_
      refine wp_seq ?_
      cases his : (numOf ((l.drop p).take (e - p))).2 with
      | false =>
        rw [his] at e8
        have hone : numAt (l.drop p) = none := num_no (by rw [← htw]; exact .inl his)
        have hCF : Calm (fun wq => RowT wq b4 35 (tokC 0 [] 0 0) ∧ Below w0.heap.size w0 wq) := fun _ _ hb hF => by obtain ⟨x4, hB⟩ := hF; exact ⟨x4.below hb x4.lt, Below.next hB hb⟩
        have hCX : ∀ bb : Bool, Calm ((fun (_ : Bool) (_ : World) => True) bb) := fun _ _ _ _ _ => trivial
        have hF0 : (fun wq => RowT wq b4 35 (tokC 0 [] 0 0) ∧ Below w0.heap.size w0 wq) w10 := ⟨x4, hB⟩
        refine region_fs (n := 20) [some (.bool false), some (.bool true), some (.bool true), some undef, some undef, some undef, some undef, some undef, some undef, some undef, some undef, some undef, some undef, some undef, some undef, some undef, some undef, some undef, some undef, some (.bool true)] 20 (fun wq => RowT wq b4 35 (tokC 0 [] 0 0) ∧ Below w0.heap.size w0 wq) (fun _ _ => True) hF0 trivial (by rw [hz]; kernel_rfl) (by kernel_rfl) (by kernel_rfl) (by kernel_rfl) ?_ fun L a12 w12 hL st => ?_
        · refine ⟨⟨⟨⟨⟨⟨⟨⟨⟨⟨⟨⟨⟨⟨⟨⟨⟨⟨⟨⟨trivial, ?_⟩, ?_⟩, ?_⟩, ?_⟩, ?_⟩, ?_⟩, ?_⟩, ?_⟩, ?_⟩, ?_⟩, ?_⟩, ?_⟩, ?_⟩, ?_⟩, ?_⟩, ?_⟩, ?_⟩, ?_⟩, ?_⟩, ?_⟩
          · intro oo aa ww LL hho hho2 haft st; obtain rfl := Option.some.inj hho; exact payF_move st (by decide) (want_none rfl) rfl (st.outV (by kernel_rfl) e8) rfl
          · intro oo aa ww LL hho hho2 haft st; obtain rfl := Option.some.inj hho; exact payF st (by decide) (want_none rfl) (fun ww hF => by obtain ⟨x4, hB⟩ := hF; exact run_not rfl (st.argF (j := 0) (aft_of haft (by kernel_rfl)) rfl rfl)) rfl
          · intro oo aa ww LL hho hho2 haft st; obtain rfl := Option.some.inj hho; exact payF_move st (by decide) (want_none rfl) rfl (st.argF (j := 1) (aft_of haft (by kernel_rfl)) rfl rfl) rfl
          · intro oo aa ww LL hho hho2 haft st; obtain rfl := Option.some.inj hho; exact st.skipF (by decide) haft rfl (by kernel_rfl) rfl (.inl rfl) rfl
          · intro oo aa ww LL hho hho2 haft st; obtain rfl := Option.some.inj hho; exact st.skipF (by decide) haft rfl (by kernel_rfl) rfl (.inl rfl) rfl
          · intro oo aa ww LL hho hho2 haft st; obtain rfl := Option.some.inj hho; exact st.skipF (by decide) haft rfl (by kernel_rfl) rfl (.inl rfl) rfl
          · intro oo aa ww LL hho hho2 haft st; obtain rfl := Option.some.inj hho; exact st.skipF (by decide) haft rfl (by kernel_rfl) rfl (.inl rfl) rfl
          · intro oo aa ww LL hho hho2 haft st; obtain rfl := Option.some.inj hho; exact st.skipF (by decide) haft rfl (by kernel_rfl) rfl (.inl rfl) rfl
          · intro oo aa ww LL hho hho2 haft st; obtain rfl := Option.some.inj hho; exact st.skipF (by decide) haft rfl (by kernel_rfl) rfl (.inr rfl) rfl
          · intro oo aa ww LL hho hho2 haft st; obtain rfl := Option.some.inj hho; exact st.skipF (by decide) haft rfl (by kernel_rfl) rfl (.inr rfl) rfl
          · intro oo aa ww LL hho hho2 haft st; obtain rfl := Option.some.inj hho; exact st.skipF (by decide) haft rfl (by kernel_rfl) rfl (.inr rfl) rfl
          · intro oo aa ww LL hho hho2 haft st; obtain rfl := Option.some.inj hho; exact st.skipF (by decide) haft rfl (by kernel_rfl) rfl (.inr rfl) rfl
          · intro oo aa ww LL hho hho2 haft st; obtain rfl := Option.some.inj hho; exact st.skipF (by decide) haft rfl (by kernel_rfl) rfl (.inr rfl) rfl
          · intro oo aa ww LL hho hho2 haft st; obtain rfl := Option.some.inj hho; exact st.skipF (by decide) haft rfl (by kernel_rfl) rfl (.inr rfl) rfl
          · intro oo aa ww LL hho hho2 haft st; obtain rfl := Option.some.inj hho; exact st.skipF (by decide) haft rfl (by kernel_rfl) rfl (.inr rfl) rfl
          · intro oo aa ww LL hho hho2 haft st; obtain rfl := Option.some.inj hho; exact st.skipF (by decide) haft rfl (by kernel_rfl) rfl (.inr rfl) rfl
          · intro oo aa ww LL hho hho2 haft st; obtain rfl := Option.some.inj hho; exact st.skipF (by decide) haft rfl (by kernel_rfl) rfl (.inr rfl) rfl
          · intro oo aa ww LL hho hho2 haft st; obtain rfl := Option.some.inj hho; exact st.skipF (by decide) haft rfl (by kernel_rfl) rfl (.inr rfl) rfl
          · intro oo aa ww LL hho hho2 haft st; obtain rfl := Option.some.inj hho; exact st.skipF (by decide) haft rfl (by kernel_rfl) rfl (.inl rfl) rfl
          · intro oo aa ww LL hho hho2 haft st; obtain rfl := Option.some.inj hho; exact payF_pick st (by decide) (want_none rfl) rfl (st.argF (j := 2) (aft_of haft (by kernel_rfl)) rfl rfl) rfl rfl
        have k12 : KeepM 11 [] a11 a12 := st.keepM (by kernel_rfl)
        have hgf := st.g
        unfold GF at hgf
        have e94 : a12.eval (.tmp 94) = (.bool true) := st.argF (j := 19) (hL 19 (by omega)) rfl rfl
        clear hF0 hCF hCX hS x4 hB
        replace hgf := hgf.1
        obtain ⟨x4, hB⟩ := hgf
        clear st hL L
        replace e0 := k12.ev e0 (by decide)
        replace e1 := k12.ev e1 (by decide)
        replace e4 := k12.ev e4 (by decide)
        replace e5 := k12.ev e5 (by decide)
        replace e6 := k12.ev e6 (by decide)
        replace e7 := k12.ev e7 (by decide)
        replace e8 := k12.ev e8 (by decide)
        replace hz := k12.size.trans hz
        replace hd := k12.defers.trans hd
        have hS := hB.size
        refine wp_cond_true e94 ?_
        refine wp_seq ?_
        refine seq_startL (l := [0, 1, 2]) (by kernel_rfl) ?_
        refine seq_valD 95 (v := (.agg (tokC 0 [] 0 0).toArray)) rfl rfl rfl (run_tok0 rfl ) ?_
        refine seq_skipD rfl rfl rfl (run_stTok rfl ((ev_ne (by decide)).trans e4) (ev_same (by first | (rw [hz]; decide) | (simp only [size_put, hz]; decide))) x4 rfl) ?_
        have y4 : RowT (setCells w12 b4 0 (tokC 0 [] 0 0)) b4 35 (tokC 0 [] 0 0) := (x4.setTok rfl 0 [] 0 0)
        replace hB := below_setCells hB hge4 (tokC 0 [] 0 0) 0
        have x4 := y4
        clear y4
        generalize (setCells w12 b4 0 (tokC 0 [] 0 0)) = w13 at x4 hB ⊢
        replace hS := hB.size
        refine seq_assign 5 (v := (.bool false)) rfl rfl rfl rfl rfl ?_
        refine seq_nil ?_
        refine seq_out (((KeepM.refl 11 [5] a12).put (by decide)).put (by decide)) fun a14 k14 tr => ?_
        have f5 := tr 5 (.bool false) (ev_same (by first | (rw [hz]; decide) | (simp only [size_put, hz]; decide)))
        clear tr
        replace e0 := k14.ev e0 (by decide)
        replace e1 := k14.ev e1 (by decide)
        replace e4 := k14.ev e4 (by decide)
        replace e6 := k14.ev e6 (by decide)
        replace e7 := k14.ev e7 (by decide)
        replace e8 := k14.ev e8 (by decide)
        replace hz := k14.size.trans hz
        replace hd := k14.defers.trans hd
        have e5 := f5
        clear f5
        refine wp_ret ?_
        exact post_tokB rfl hd e4 x4 e5 (by intro h; cases h) ⟨by rw [hone]; rfl, hB⟩
      | true =>
        rw [his] at e8
        cases hc10_11 : (isLetter d : Bool) with
        | true =>
          have hCF : Calm (fun wq => RowT wq b4 35 (tokC 0 [] 0 0) ∧ Below w0.heap.size w0 wq) := fun _ _ hb hF => by obtain ⟨x4, hB⟩ := hF; exact ⟨x4.below hb x4.lt, Below.next hB hb⟩
          have hCX : ∀ bb : Bool, Calm ((fun (_ : Bool) (_ : World) => True) bb) := fun _ _ _ _ _ => trivial
          have hF0 : (fun wq => RowT wq b4 35 (tokC 0 [] 0 0) ∧ Below w0.heap.size w0 wq) w10 := ⟨x4, hB⟩
          refine region_fs (n := 20) [some (.bool true), some (.bool false), some (.bool false), some (.int .i64 ((e : Nat) : Int)), some (Str l), some (.int .i64 ((l.length : Nat) : Int)), some (.bool true), some (.bool true), some (Str l), some (.int .i64 ((e : Nat) : Int)), some (.int .u8 ((d.toNat : Nat) : Int)), some (.bool true), some (.bool true), some undef, some undef, some undef, some undef, some (.bool true), some (.bool true), some (.bool true)] 20 (fun wq => RowT wq b4 35 (tokC 0 [] 0 0) ∧ Below w0.heap.size w0 wq) (fun _ _ => True) hF0 trivial (by rw [hz]; kernel_rfl) (by kernel_rfl) (by kernel_rfl) (by kernel_rfl) ?_ fun L a15 w15 hL st => ?_
          · refine ⟨⟨⟨⟨⟨⟨⟨⟨⟨⟨⟨⟨⟨⟨⟨⟨⟨⟨⟨⟨trivial, ?_⟩, ?_⟩, ?_⟩, ?_⟩, ?_⟩, ?_⟩, ?_⟩, ?_⟩, ?_⟩, ?_⟩, ?_⟩, ?_⟩, ?_⟩, ?_⟩, ?_⟩, ?_⟩, ?_⟩, ?_⟩, ?_⟩, ?_⟩
            · intro oo aa ww LL hho hho2 haft st; obtain rfl := Option.some.inj hho; exact payF_move st (by decide) (want_none rfl) rfl (st.outV (by kernel_rfl) e8) rfl
            · intro oo aa ww LL hho hho2 haft st; obtain rfl := Option.some.inj hho; exact payF st (by decide) (want_none rfl) (fun ww hF => by obtain ⟨x4, hB⟩ := hF; exact run_not rfl (st.argF (j := 0) (aft_of haft (by kernel_rfl)) rfl rfl)) rfl
            · intro oo aa ww LL hho hho2 haft st; obtain rfl := Option.some.inj hho; exact payF_move st (by decide) (want_none rfl) rfl (st.argF (j := 1) (aft_of haft (by kernel_rfl)) rfl rfl) rfl
            · intro oo aa ww LL hho hho2 haft st; obtain rfl := Option.some.inj hho; exact payF_move st (by decide) (st.wantF haft rfl (by kernel_rfl) rfl) rfl (st.outV (by kernel_rfl) e6) rfl
            · intro oo aa ww LL hho hho2 haft st; obtain rfl := Option.some.inj hho; exact payF_move st (by decide) (st.wantF haft rfl (by kernel_rfl) rfl) rfl (st.outV (by kernel_rfl) e0) rfl
            · intro oo aa ww LL hho hho2 haft st; obtain rfl := Option.some.inj hho; exact payF st (by decide) (st.wantF haft rfl (by kernel_rfl) rfl) (fun ww hF => by obtain ⟨x4, hB⟩ := hF; exact run_lenS rfl (st.argF (j := 4) (aft_of haft (by kernel_rfl)) rfl rfl)) rfl
            · intro oo aa ww LL hho hho2 haft st; obtain rfl := Option.some.inj hho; exact payF st (by decide) (st.wantF haft rfl (by kernel_rfl) rfl) (fun ww hF => by obtain ⟨x4, hB⟩ := hF; exact (run_ltI rfl (st.argF (j := 3) (aft_of haft (by kernel_rfl)) rfl rfl) (st.argF (j := 5) (aft_of haft (by kernel_rfl)) rfl rfl)).trans (okB (c := true) (decide_eq_true (by omega)))) rfl
            · intro oo aa ww LL hho hho2 haft st; obtain rfl := Option.some.inj hho; exact payF_move st (by decide) (st.wantF haft rfl (by kernel_rfl) rfl) rfl (st.argF (j := 6) (aft_of haft (by kernel_rfl)) rfl rfl) rfl
            · intro oo aa ww LL hho hho2 haft st; obtain rfl := Option.some.inj hho; exact payF_move st (by decide) (st.wantF haft rfl (by kernel_rfl) rfl) rfl (st.outV (by kernel_rfl) e0) rfl
            · intro oo aa ww LL hho hho2 haft st; obtain rfl := Option.some.inj hho; exact payF_move st (by decide) (st.wantF haft rfl (by kernel_rfl) rfl) rfl (st.outV (by kernel_rfl) e6) rfl
            · intro oo aa ww LL hho hho2 haft st; obtain rfl := Option.some.inj hho; exact payF st (by decide) (st.wantF haft rfl (by kernel_rfl) rfl) (fun ww hF => by obtain ⟨x4, hB⟩ := hF; exact run_idxS (k := e) rfl (st.argF (j := 8) (aft_of haft (by kernel_rfl)) rfl rfl) (st.argF (j := 9) (aft_of haft (by kernel_rfl)) rfl rfl) hde) rfl
            · intro oo aa ww LL hho hho2 haft st; obtain rfl := Option.some.inj hho; exact callF st (by decide) hCF hCX (st.wantF haft rfl (by kernel_rfl) rfl) en_ref_letter rfl (args_one (st.argF (j := 10) (aft_of haft (by kernel_rfl)) rfl rfl)) (callTF hc10_11 (fun ww _ => ref_letter d ww)) rfl
            · intro oo aa ww LL hho hho2 haft st; obtain rfl := Option.some.inj hho; exact payF_move st (by decide) (st.wantF haft rfl (by kernel_rfl) rfl) rfl (st.argF (j := 11) (aft_of haft (by kernel_rfl)) rfl rfl) rfl
            · intro oo aa ww LL hho hho2 haft st; obtain rfl := Option.some.inj hho; exact st.skipF (by decide) haft rfl (by kernel_rfl) rfl (.inl rfl) rfl
            · intro oo aa ww LL hho hho2 haft st; obtain rfl := Option.some.inj hho; exact st.skipF (by decide) haft rfl (by kernel_rfl) rfl (.inl rfl) rfl
            · intro oo aa ww LL hho hho2 haft st; obtain rfl := Option.some.inj hho; exact st.skipF (by decide) haft rfl (by kernel_rfl) rfl (.inl rfl) rfl
            · intro oo aa ww LL hho hho2 haft st; obtain rfl := Option.some.inj hho; exact st.skipF (by decide) haft rfl (by kernel_rfl) rfl (.inl rfl) rfl
            · intro oo aa ww LL hho hho2 haft st; obtain rfl := Option.some.inj hho; exact payF_pick st (by decide) (st.wantF haft rfl (by kernel_rfl) rfl) rfl (st.argF (j := 12) (aft_of haft (by kernel_rfl)) rfl rfl) rfl rfl
            · intro oo aa ww LL hho hho2 haft st; obtain rfl := Option.some.inj hho; exact payF_pick st (by decide) (st.wantF haft rfl (by kernel_rfl) rfl) rfl (st.argF (j := 7) (aft_of haft (by kernel_rfl)) rfl rfl) (st.argF (j := 17) (aft_of haft (by kernel_rfl)) rfl rfl) rfl
            · intro oo aa ww LL hho hho2 haft st; obtain rfl := Option.some.inj hho; exact payF_pick st (by decide) (want_none rfl) rfl (st.argF (j := 2) (aft_of haft (by kernel_rfl)) rfl rfl) (st.argF (j := 18) (aft_of haft (by kernel_rfl)) rfl rfl) rfl
          have k15 : KeepM 11 [] a11 a15 := st.keepM (by kernel_rfl)
          have hgf := st.g
          unfold GF at hgf
          have e94 : a15.eval (.tmp 94) = (.bool true) := st.argF (j := 19) (hL 19 (by omega)) rfl rfl
          clear hF0 hCF hCX hS x4 hB
          replace hgf := hgf.1
          obtain ⟨x4, hB⟩ := hgf
          clear st hL L
          replace e0 := k15.ev e0 (by decide)
          replace e1 := k15.ev e1 (by decide)
          replace e4 := k15.ev e4 (by decide)
          replace e5 := k15.ev e5 (by decide)
          replace e6 := k15.ev e6 (by decide)
          replace e7 := k15.ev e7 (by decide)
          replace e8 := k15.ev e8 (by decide)
          replace hz := k15.size.trans hz
          replace hd := k15.defers.trans hd
          have hS := hB.size
          have hv2 : (isLetter d || (((d.toNat : Nat) : Int) == 95)) = true := by rw [hc10_11]; try rfl
          have hone : numAt (l.drop p) = none := num_no (by rw [← htw]; exact .inr ⟨d, (tw_next hpe hel).trans hde, hv2⟩)
          refine wp_cond_true e94 ?_
          refine wp_seq ?_
          refine seq_startL (l := [0, 1, 2]) (by kernel_rfl) ?_
          refine seq_valD 95 (v := (.agg (tokC 0 [] 0 0).toArray)) rfl rfl rfl (run_tok0 rfl ) ?_
          refine seq_skipD rfl rfl rfl (run_stTok rfl ((ev_ne (by decide)).trans e4) (ev_same (by first | (rw [hz]; decide) | (simp only [size_put, hz]; decide))) x4 rfl) ?_
          have y4 : RowT (setCells w15 b4 0 (tokC 0 [] 0 0)) b4 35 (tokC 0 [] 0 0) := (x4.setTok rfl 0 [] 0 0)
          replace hB := below_setCells hB hge4 (tokC 0 [] 0 0) 0
          have x4 := y4
          clear y4
          generalize (setCells w15 b4 0 (tokC 0 [] 0 0)) = w16 at x4 hB ⊢
          replace hS := hB.size
          refine seq_assign 5 (v := (.bool false)) rfl rfl rfl rfl rfl ?_
          refine seq_nil ?_
          refine seq_out (((KeepM.refl 11 [5] a15).put (by decide)).put (by decide)) fun a17 k17 tr => ?_
          have f5 := tr 5 (.bool false) (ev_same (by first | (rw [hz]; decide) | (simp only [size_put, hz]; decide)))
          clear tr
          replace e0 := k17.ev e0 (by decide)
          replace e1 := k17.ev e1 (by decide)
          replace e4 := k17.ev e4 (by decide)
          replace e6 := k17.ev e6 (by decide)
          replace e7 := k17.ev e7 (by decide)
          replace e8 := k17.ev e8 (by decide)
          replace hz := k17.size.trans hz
          replace hd := k17.defers.trans hd
          have e5 := f5
          clear f5
          refine wp_ret ?_
          exact post_tokB rfl hd e4 x4 e5 (by intro h; cases h) ⟨by rw [hone]; rfl, hB⟩
        | false =>
          cases hc10_16 : ((((d.toNat : Nat) : Int) == 95) : Bool) with
          | true =>
            have hCF : Calm (fun wq => RowT wq b4 35 (tokC 0 [] 0 0) ∧ Below w0.heap.size w0 wq) := fun _ _ hb hF => by obtain ⟨x4, hB⟩ := hF; exact ⟨x4.below hb x4.lt, Below.next hB hb⟩
            have hCX : ∀ bb : Bool, Calm ((fun (_ : Bool) (_ : World) => True) bb) := fun _ _ _ _ _ => trivial
            have hF0 : (fun wq => RowT wq b4 35 (tokC 0 [] 0 0) ∧ Below w0.heap.size w0 wq) w10 := ⟨x4, hB⟩
            refine region_fs (n := 20) [some (.bool true), some (.bool false), some (.bool false), some (.int .i64 ((e : Nat) : Int)), some (Str l), some (.int .i64 ((l.length : Nat) : Int)), some (.bool true), some (.bool true), some (Str l), some (.int .i64 ((e : Nat) : Int)), some (.int .u8 ((d.toNat : Nat) : Int)), some (.bool false), some (.bool false), some (Str l), some (.int .i64 ((e : Nat) : Int)), some (.int .u8 ((d.toNat : Nat) : Int)), some (.bool true), some (.bool true), some (.bool true), some (.bool true)] 20 (fun wq => RowT wq b4 35 (tokC 0 [] 0 0) ∧ Below w0.heap.size w0 wq) (fun _ _ => True) hF0 trivial (by rw [hz]; kernel_rfl) (by kernel_rfl) (by kernel_rfl) (by kernel_rfl) ?_ fun L a18 w18 hL st => ?_
            · refine ⟨⟨⟨⟨⟨⟨⟨⟨⟨⟨⟨⟨⟨⟨⟨⟨⟨⟨⟨⟨trivial, ?_⟩, ?_⟩, ?_⟩, ?_⟩, ?_⟩, ?_⟩, ?_⟩, ?_⟩, ?_⟩, ?_⟩, ?_⟩, ?_⟩, ?_⟩, ?_⟩, ?_⟩, ?_⟩, ?_⟩, ?_⟩, ?_⟩, ?_⟩
              · intro oo aa ww LL hho hho2 haft st; obtain rfl := Option.some.inj hho; exact payF_move st (by decide) (want_none rfl) rfl (st.outV (by kernel_rfl) e8) rfl
              · intro oo aa ww LL hho hho2 haft st; obtain rfl := Option.some.inj hho; exact payF st (by decide) (want_none rfl) (fun ww hF => by obtain ⟨x4, hB⟩ := hF; exact run_not rfl (st.argF (j := 0) (aft_of haft (by kernel_rfl)) rfl rfl)) rfl
              · intro oo aa ww LL hho hho2 haft st; obtain rfl := Option.some.inj hho; exact payF_move st (by decide) (want_none rfl) rfl (st.argF (j := 1) (aft_of haft (by kernel_rfl)) rfl rfl) rfl
              · intro oo aa ww LL hho hho2 haft st; obtain rfl := Option.some.inj hho; exact payF_move st (by decide) (st.wantF haft rfl (by kernel_rfl) rfl) rfl (st.outV (by kernel_rfl) e6) rfl
              · intro oo aa ww LL hho hho2 haft st; obtain rfl := Option.some.inj hho; exact payF_move st (by decide) (st.wantF haft rfl (by kernel_rfl) rfl) rfl (st.outV (by kernel_rfl) e0) rfl
              · intro oo aa ww LL hho hho2 haft st; obtain rfl := Option.some.inj hho; exact payF st (by decide) (st.wantF haft rfl (by kernel_rfl) rfl) (fun ww hF => by obtain ⟨x4, hB⟩ := hF; exact run_lenS rfl (st.argF (j := 4) (aft_of haft (by kernel_rfl)) rfl rfl)) rfl
              · intro oo aa ww LL hho hho2 haft st; obtain rfl := Option.some.inj hho; exact payF st (by decide) (st.wantF haft rfl (by kernel_rfl) rfl) (fun ww hF => by obtain ⟨x4, hB⟩ := hF; exact (run_ltI rfl (st.argF (j := 3) (aft_of haft (by kernel_rfl)) rfl rfl) (st.argF (j := 5) (aft_of haft (by kernel_rfl)) rfl rfl)).trans (okB (c := true) (decide_eq_true (by omega)))) rfl
              · intro oo aa ww LL hho hho2 haft st; obtain rfl := Option.some.inj hho; exact payF_move st (by decide) (st.wantF haft rfl (by kernel_rfl) rfl) rfl (st.argF (j := 6) (aft_of haft (by kernel_rfl)) rfl rfl) rfl
              · intro oo aa ww LL hho hho2 haft st; obtain rfl := Option.some.inj hho; exact payF_move st (by decide) (st.wantF haft rfl (by kernel_rfl) rfl) rfl (st.outV (by kernel_rfl) e0) rfl
              · intro oo aa ww LL hho hho2 haft st; obtain rfl := Option.some.inj hho; exact payF_move st (by decide) (st.wantF haft rfl (by kernel_rfl) rfl) rfl (st.outV (by kernel_rfl) e6) rfl
              · intro oo aa ww LL hho hho2 haft st; obtain rfl := Option.some.inj hho; exact payF st (by decide) (st.wantF haft rfl (by kernel_rfl) rfl) (fun ww hF => by obtain ⟨x4, hB⟩ := hF; exact run_idxS (k := e) rfl (st.argF (j := 8) (aft_of haft (by kernel_rfl)) rfl rfl) (st.argF (j := 9) (aft_of haft (by kernel_rfl)) rfl rfl) hde) rfl
              · intro oo aa ww LL hho hho2 haft st; obtain rfl := Option.some.inj hho; exact callF st (by decide) hCF hCX (st.wantF haft rfl (by kernel_rfl) rfl) en_ref_letter rfl (args_one (st.argF (j := 10) (aft_of haft (by kernel_rfl)) rfl rfl)) (callTF hc10_11 (fun ww _ => ref_letter d ww)) rfl
              · intro oo aa ww LL hho hho2 haft st; obtain rfl := Option.some.inj hho; exact payF_move st (by decide) (st.wantF haft rfl (by kernel_rfl) rfl) rfl (st.argF (j := 11) (aft_of haft (by kernel_rfl)) rfl rfl) rfl
              · intro oo aa ww LL hho hho2 haft st; obtain rfl := Option.some.inj hho; exact payF_move st (by decide) (st.wantF haft rfl (by kernel_rfl) rfl) rfl (st.outV (by kernel_rfl) e0) rfl
              · intro oo aa ww LL hho hho2 haft st; obtain rfl := Option.some.inj hho; exact payF_move st (by decide) (st.wantF haft rfl (by kernel_rfl) rfl) rfl (st.outV (by kernel_rfl) e6) rfl
              · intro oo aa ww LL hho hho2 haft st; obtain rfl := Option.some.inj hho; exact payF st (by decide) (st.wantF haft rfl (by kernel_rfl) rfl) (fun ww hF => by obtain ⟨x4, hB⟩ := hF; exact run_idxS (k := e) rfl (st.argF (j := 13) (aft_of haft (by kernel_rfl)) rfl rfl) (st.argF (j := 14) (aft_of haft (by kernel_rfl)) rfl rfl) hde) rfl
              · intro oo aa ww LL hho hho2 haft st; obtain rfl := Option.some.inj hho; exact payF st (by decide) (st.wantF haft rfl (by kernel_rfl) rfl) (fun ww hF => by obtain ⟨x4, hB⟩ := hF; exact (run_eq8 rfl (st.argF (j := 15) (aft_of haft (by kernel_rfl)) rfl rfl) rfl).trans (okB (c := true) hc10_16)) rfl
              · intro oo aa ww LL hho hho2 haft st; obtain rfl := Option.some.inj hho; exact payF_pick st (by decide) (st.wantF haft rfl (by kernel_rfl) rfl) rfl (st.argF (j := 12) (aft_of haft (by kernel_rfl)) rfl rfl) (st.argF (j := 16) (aft_of haft (by kernel_rfl)) rfl rfl) rfl
              · intro oo aa ww LL hho hho2 haft st; obtain rfl := Option.some.inj hho; exact payF_pick st (by decide) (st.wantF haft rfl (by kernel_rfl) rfl) rfl (st.argF (j := 7) (aft_of haft (by kernel_rfl)) rfl rfl) (st.argF (j := 17) (aft_of haft (by kernel_rfl)) rfl rfl) rfl
              · intro oo aa ww LL hho hho2 haft st; obtain rfl := Option.some.inj hho; exact payF_pick st (by decide) (want_none rfl) rfl (st.argF (j := 2) (aft_of haft (by kernel_rfl)) rfl rfl) (st.argF (j := 18) (aft_of haft (by kernel_rfl)) rfl rfl) rfl
            have k18 : KeepM 11 [] a11 a18 := st.keepM (by kernel_rfl)
            have hgf := st.g
            unfold GF at hgf
            have e94 : a18.eval (.tmp 94) = (.bool true) := st.argF (j := 19) (hL 19 (by omega)) rfl rfl
            clear hF0 hCF hCX hS x4 hB
            replace hgf := hgf.1
            obtain ⟨x4, hB⟩ := hgf
            clear st hL L
            replace e0 := k18.ev e0 (by decide)
            replace e1 := k18.ev e1 (by decide)
            replace e4 := k18.ev e4 (by decide)
            replace e5 := k18.ev e5 (by decide)
            replace e6 := k18.ev e6 (by decide)
            replace e7 := k18.ev e7 (by decide)
            replace e8 := k18.ev e8 (by decide)
            replace hz := k18.size.trans hz
            replace hd := k18.defers.trans hd
            have hS := hB.size
            have hv2 : (isLetter d || (((d.toNat : Nat) : Int) == 95)) = true := by rw [hc10_11, hc10_16]; try rfl
            have hone : numAt (l.drop p) = none := num_no (by rw [← htw]; exact .inr ⟨d, (tw_next hpe hel).trans hde, hv2⟩)
            refine wp_cond_true e94 ?_
            refine wp_seq ?_
            refine seq_startL (l := [0, 1, 2]) (by kernel_rfl) ?_
            refine seq_valD 95 (v := (.agg (tokC 0 [] 0 0).toArray)) rfl rfl rfl (run_tok0 rfl ) ?_
            refine seq_skipD rfl rfl rfl (run_stTok rfl ((ev_ne (by decide)).trans e4) (ev_same (by first | (rw [hz]; decide) | (simp only [size_put, hz]; decide))) x4 rfl) ?_
            have y4 : RowT (setCells w18 b4 0 (tokC 0 [] 0 0)) b4 35 (tokC 0 [] 0 0) := (x4.setTok rfl 0 [] 0 0)
            replace hB := below_setCells hB hge4 (tokC 0 [] 0 0) 0
            have x4 := y4
            clear y4
            generalize (setCells w18 b4 0 (tokC 0 [] 0 0)) = w19 at x4 hB ⊢
            replace hS := hB.size
            refine seq_assign 5 (v := (.bool false)) rfl rfl rfl rfl rfl ?_
            refine seq_nil ?_
            refine seq_out (((KeepM.refl 11 [5] a18).put (by decide)).put (by decide)) fun a20 k20 tr => ?_
            have f5 := tr 5 (.bool false) (ev_same (by first | (rw [hz]; decide) | (simp only [size_put, hz]; decide)))
            clear tr
            replace e0 := k20.ev e0 (by decide)
            replace e1 := k20.ev e1 (by decide)
            replace e4 := k20.ev e4 (by decide)
            replace e6 := k20.ev e6 (by decide)
            replace e7 := k20.ev e7 (by decide)
            replace e8 := k20.ev e8 (by decide)
            replace hz := k20.size.trans hz
            replace hd := k20.defers.trans hd
            have e5 := f5
            clear f5
            refine wp_ret ?_
            exact post_tokB rfl hd e4 x4 e5 (by intro h; cases h) ⟨by rw [hone]; rfl, hB⟩
          | false =>
            have hCF : Calm (fun wq => RowT wq b4 35 (tokC 0 [] 0 0) ∧ Below w0.heap.size w0 wq) := fun _ _ hb hF => by obtain ⟨x4, hB⟩ := hF; exact ⟨x4.below hb x4.lt, Below.next hB hb⟩
            have hCX : ∀ bb : Bool, Calm ((fun (_ : Bool) (_ : World) => True) bb) := fun _ _ _ _ _ => trivial
            have hF0 : (fun wq => RowT wq b4 35 (tokC 0 [] 0 0) ∧ Below w0.heap.size w0 wq) w10 := ⟨x4, hB⟩
            refine region_fs (n := 20) [some (.bool true), some (.bool false), some (.bool false), some (.int .i64 ((e : Nat) : Int)), some (Str l), some (.int .i64 ((l.length : Nat) : Int)), some (.bool true), some (.bool true), some (Str l), some (.int .i64 ((e : Nat) : Int)), some (.int .u8 ((d.toNat : Nat) : Int)), some (.bool false), some (.bool false), some (Str l), some (.int .i64 ((e : Nat) : Int)), some (.int .u8 ((d.toNat : Nat) : Int)), some (.bool false), some (.bool false), some (.bool false), some (.bool false)] 20 (fun wq => RowT wq b4 35 (tokC 0 [] 0 0) ∧ Below w0.heap.size w0 wq) (fun _ _ => True) hF0 trivial (by rw [hz]; kernel_rfl) (by kernel_rfl) (by kernel_rfl) (by kernel_rfl) ?_ fun L a21 w21 hL st => ?_
            · refine ⟨⟨⟨⟨⟨⟨⟨⟨⟨⟨⟨⟨⟨⟨⟨⟨⟨⟨⟨⟨trivial, ?_⟩, ?_⟩, ?_⟩, ?_⟩, ?_⟩, ?_⟩, ?_⟩, ?_⟩, ?_⟩, ?_⟩, ?_⟩, ?_⟩, ?_⟩, ?_⟩, ?_⟩, ?_⟩, ?_⟩, ?_⟩, ?_⟩, ?_⟩
              · intro oo aa ww LL hho hho2 haft st; obtain rfl := Option.some.inj hho; exact payF_move st (by decide) (want_none rfl) rfl (st.outV (by kernel_rfl) e8) rfl
              · intro oo aa ww LL hho hho2 haft st; obtain rfl := Option.some.inj hho; exact payF st (by decide) (want_none rfl) (fun ww hF => by obtain ⟨x4, hB⟩ := hF; exact run_not rfl (st.argF (j := 0) (aft_of haft (by kernel_rfl)) rfl rfl)) rfl
              · intro oo aa ww LL hho hho2 haft st; obtain rfl := Option.some.inj hho; exact payF_move st (by decide) (want_none rfl) rfl (st.argF (j := 1) (aft_of haft (by kernel_rfl)) rfl rfl) rfl
              · intro oo aa ww LL hho hho2 haft st; obtain rfl := Option.some.inj hho; exact payF_move st (by decide) (st.wantF haft rfl (by kernel_rfl) rfl) rfl (st.outV (by kernel_rfl) e6) rfl
              · intro oo aa ww LL hho hho2 haft st; obtain rfl := Option.some.inj hho; exact payF_move st (by decide) (st.wantF haft rfl (by kernel_rfl) rfl) rfl (st.outV (by kernel_rfl) e0) rfl
              · intro oo aa ww LL hho hho2 haft st; obtain rfl := Option.some.inj hho; exact payF st (by decide) (st.wantF haft rfl (by kernel_rfl) rfl) (fun ww hF => by obtain ⟨x4, hB⟩ := hF; exact run_lenS rfl (st.argF (j := 4) (aft_of haft (by kernel_rfl)) rfl rfl)) rfl
              · intro oo aa ww LL hho hho2 haft st; obtain rfl := Option.some.inj hho; exact payF st (by decide) (st.wantF haft rfl (by kernel_rfl) rfl) (fun ww hF => by obtain ⟨x4, hB⟩ := hF; exact (run_ltI rfl (st.argF (j := 3) (aft_of haft (by kernel_rfl)) rfl rfl) (st.argF (j := 5) (aft_of haft (by kernel_rfl)) rfl rfl)).trans (okB (c := true) (decide_eq_true (by omega)))) rfl
              · intro oo aa ww LL hho hho2 haft st; obtain rfl := Option.some.inj hho; exact payF_move st (by decide) (st.wantF haft rfl (by kernel_rfl) rfl) rfl (st.argF (j := 6) (aft_of haft (by kernel_rfl)) rfl rfl) rfl
              · intro oo aa ww LL hho hho2 haft st; obtain rfl := Option.some.inj hho; exact payF_move st (by decide) (st.wantF haft rfl (by kernel_rfl) rfl) rfl (st.outV (by kernel_rfl) e0) rfl
              · intro oo aa ww LL hho hho2 haft st; obtain rfl := Option.some.inj hho; exact payF_move st (by decide) (st.wantF haft rfl (by kernel_rfl) rfl) rfl (st.outV (by kernel_rfl) e6) rfl
              · intro oo aa ww LL hho hho2 haft st; obtain rfl := Option.some.inj hho; exact payF st (by decide) (st.wantF haft rfl (by kernel_rfl) rfl) (fun ww hF => by obtain ⟨x4, hB⟩ := hF; exact run_idxS (k := e) rfl (st.argF (j := 8) (aft_of haft (by kernel_rfl)) rfl rfl) (st.argF (j := 9) (aft_of haft (by kernel_rfl)) rfl rfl) hde) rfl
              · intro oo aa ww LL hho hho2 haft st; obtain rfl := Option.some.inj hho; exact callF st (by decide) hCF hCX (st.wantF haft rfl (by kernel_rfl) rfl) en_ref_letter rfl (args_one (st.argF (j := 10) (aft_of haft (by kernel_rfl)) rfl rfl)) (callTF hc10_11 (fun ww _ => ref_letter d ww)) rfl
              · intro oo aa ww LL hho hho2 haft st; obtain rfl := Option.some.inj hho; exact payF_move st (by decide) (st.wantF haft rfl (by kernel_rfl) rfl) rfl (st.argF (j := 11) (aft_of haft (by kernel_rfl)) rfl rfl) rfl
              · intro oo aa ww LL hho hho2 haft st; obtain rfl := Option.some.inj hho; exact payF_move st (by decide) (st.wantF haft rfl (by kernel_rfl) rfl) rfl (st.outV (by kernel_rfl) e0) rfl
              · intro oo aa ww LL hho hho2 haft st; obtain rfl := Option.some.inj hho; exact payF_move st (by decide) (st.wantF haft rfl (by kernel_rfl) rfl) rfl (st.outV (by kernel_rfl) e6) rfl
              · intro oo aa ww LL hho hho2 haft st; obtain rfl := Option.some.inj hho; exact payF st (by decide) (st.wantF haft rfl (by kernel_rfl) rfl) (fun ww hF => by obtain ⟨x4, hB⟩ := hF; exact run_idxS (k := e) rfl (st.argF (j := 13) (aft_of haft (by kernel_rfl)) rfl rfl) (st.argF (j := 14) (aft_of haft (by kernel_rfl)) rfl rfl) hde) rfl
              · intro oo aa ww LL hho hho2 haft st; obtain rfl := Option.some.inj hho; exact payF st (by decide) (st.wantF haft rfl (by kernel_rfl) rfl) (fun ww hF => by obtain ⟨x4, hB⟩ := hF; exact (run_eq8 rfl (st.argF (j := 15) (aft_of haft (by kernel_rfl)) rfl rfl) rfl).trans (okB (c := false) hc10_16)) rfl
              · intro oo aa ww LL hho hho2 haft st; obtain rfl := Option.some.inj hho; exact payF_pick st (by decide) (st.wantF haft rfl (by kernel_rfl) rfl) rfl (st.argF (j := 12) (aft_of haft (by kernel_rfl)) rfl rfl) (st.argF (j := 16) (aft_of haft (by kernel_rfl)) rfl rfl) rfl
              · intro oo aa ww LL hho hho2 haft st; obtain rfl := Option.some.inj hho; exact payF_pick st (by decide) (st.wantF haft rfl (by kernel_rfl) rfl) rfl (st.argF (j := 7) (aft_of haft (by kernel_rfl)) rfl rfl) (st.argF (j := 17) (aft_of haft (by kernel_rfl)) rfl rfl) rfl
              · intro oo aa ww LL hho hho2 haft st; obtain rfl := Option.some.inj hho; exact payF_pick st (by decide) (want_none rfl) rfl (st.argF (j := 2) (aft_of haft (by kernel_rfl)) rfl rfl) (st.argF (j := 18) (aft_of haft (by kernel_rfl)) rfl rfl) rfl
            have k21 : KeepM 11 [] a11 a21 := st.keepM (by kernel_rfl)
            have hgf := st.g
            unfold GF at hgf
            have e94 : a21.eval (.tmp 94) = (.bool false) := st.argF (j := 19) (hL 19 (by omega)) rfl rfl
            clear hF0 hCF hCX hS x4 hB
            replace hgf := hgf.1
            obtain ⟨x4, hB⟩ := hgf
            clear st hL L
            replace e0 := k21.ev e0 (by decide)
            replace e1 := k21.ev e1 (by decide)
            replace e4 := k21.ev e4 (by decide)
            replace e5 := k21.ev e5 (by decide)
            replace e6 := k21.ev e6 (by decide)
            replace e7 := k21.ev e7 (by decide)
            replace e8 := k21.ev e8 (by decide)
            replace hz := k21.size.trans hz
            replace hd := k21.defers.trans hd
            have hS := hB.size
            have hv2 : (isLetter d || (((d.toNat : Nat) : Int) == 95)) = false := by rw [hc10_11, hc10_16]; try rfl
            have hone : numAt (l.drop p) = some (numOf ((l.drop p).take (e - p))).1 := num_yes htw his (fun c hc => by rw [hde] at hc; rw [← Option.some.inj hc]; exact hv2) hpe
            refine wp_cond_false e94 ?_
            refine wp_skip ?_
            refine wp_seq ?_
            refine seq_startL (l := [0, 1, 2, 3, 4, 5, 6, 7, 8]) (by kernel_rfl) ?_
            refine seq_move 96 (v := (Str l)) rfl rfl rfl rfl e0 ?_
            refine seq_move 97 (v := (.int .i64 ((p : Nat) : Int))) rfl rfl rfl rfl ((ev_ne (by decide)).trans e1) ?_
            refine seq_move 98 (v := (.int .i64 ((e : Nat) : Int))) rfl rfl rfl rfl ((ev_ne (by decide)).trans ((ev_ne (by decide)).trans e6)) ?_
            refine seq_valD 99 (v := (Str ((l.drop p).take (e - p)))) rfl rfl rfl (run_slcS rfl ((ev_ne (by decide)).trans ((ev_ne (by decide)).trans (ev_same (by first | (rw [hz]; decide) | (simp only [size_put, hz]; decide))))) ((ev_ne (by decide)).trans (ev_same (by first | (rw [hz]; decide) | (simp only [size_put, hz]; decide)))) (ev_same (by first | (rw [hz]; decide) | (simp only [size_put, hz]; decide))) hpe hel) ?_
            refine seq_move 100 (v := (.int .i64 (numOf ((l.drop p).take (e - p))).1)) rfl rfl rfl rfl ((ev_ne (by decide)).trans ((ev_ne (by decide)).trans ((ev_ne (by decide)).trans ((ev_ne (by decide)).trans e7)))) ?_
            refine seq_move 101 (v := (.int .i64 ((p : Nat) : Int))) rfl rfl rfl rfl ((ev_ne (by decide)).trans ((ev_ne (by decide)).trans ((ev_ne (by decide)).trans ((ev_ne (by decide)).trans ((ev_ne (by decide)).trans e1))))) ?_
            refine seq_valD 102 (v := (.agg (tokC 3 ((l.drop p).take (e - p)) (numOf ((l.drop p).take (e - p))).1 ((p : Nat) : Int)).toArray)) rfl rfl rfl (run_tok0123 rfl rfl ((ev_ne (by decide)).trans ((ev_ne (by decide)).trans (ev_same (by first | (rw [hz]; decide) | (simp only [size_put, hz]; decide))))) ((ev_ne (by decide)).trans (ev_same (by first | (rw [hz]; decide) | (simp only [size_put, hz]; decide)))) (ev_same (by first | (rw [hz]; decide) | (simp only [size_put, hz]; decide)))) ?_
            refine seq_skipD rfl rfl rfl (run_stTok rfl ((ev_ne (by decide)).trans ((ev_ne (by decide)).trans ((ev_ne (by decide)).trans ((ev_ne (by decide)).trans ((ev_ne (by decide)).trans ((ev_ne (by decide)).trans ((ev_ne (by decide)).trans e4))))))) (ev_same (by first | (rw [hz]; decide) | (simp only [size_put, hz]; decide))) x4 rfl) ?_
            have y4 : RowT (setCells w21 b4 0 (tokC 3 ((l.drop p).take (e - p)) (numOf ((l.drop p).take (e - p))).1 ((p : Nat) : Int))) b4 35 (tokC 3 ((l.drop p).take (e - p)) (numOf ((l.drop p).take (e - p))).1 ((p : Nat) : Int)) := (x4.setTok rfl 3 ((l.drop p).take (e - p)) (numOf ((l.drop p).take (e - p))).1 ((p : Nat) : Int))
            replace hB := below_setCells hB hge4 (tokC 3 ((l.drop p).take (e - p)) (numOf ((l.drop p).take (e - p))).1 ((p : Nat) : Int)) 0
            have x4 := y4
            clear y4
            generalize (setCells w21 b4 0 (tokC 3 ((l.drop p).take (e - p)) (numOf ((l.drop p).take (e - p))).1 ((p : Nat) : Int))) = w22 at x4 hB ⊢
            replace hS := hB.size
            refine seq_assign 5 (v := (.bool true)) rfl rfl rfl rfl rfl ?_
            refine seq_nil ?_
            refine seq_out (((((((((KeepM.refl 11 [5] a21).put (by decide)).put (by decide)).put (by decide)).put (by decide)).put (by decide)).put (by decide)).put (by decide)).put (by decide)) fun a23 k23 tr => ?_
            have f5 := tr 5 (.bool true) (ev_same (by first | (rw [hz]; decide) | (simp only [size_put, hz]; decide)))
            clear tr
            replace e0 := k23.ev e0 (by decide)
            replace e1 := k23.ev e1 (by decide)
            replace e4 := k23.ev e4 (by decide)
            replace e6 := k23.ev e6 (by decide)
            replace e7 := k23.ev e7 (by decide)
            replace e8 := k23.ev e8 (by decide)
            replace hz := k23.size.trans hz
            replace hd := k23.defers.trans hd
            have e5 := f5
            clear f5
            refine wp_ret ?_
            exact post_tokB rfl hd e4 x4 e5 (by intro h; cases h) ⟨by rw [← htw, hone]; rfl, hB⟩
  · have hCF : Calm (fun wq => RowT wq b4 35 (tokC 0 [] 0 0) ∧ Below w0.heap.size w0 wq) := fun _ _ hb hF => by obtain ⟨x4, hB⟩ := hF; exact ⟨x4.below hb x4.lt, Below.next hB hb⟩
    have hCX : ∀ bb : Bool, Calm ((fun (_ : Bool) (_ : World) => True) bb) := fun _ _ _ _ _ => trivial
    have hF0 : (fun wq => RowT wq b4 35 (tokC 0 [] 0 0) ∧ Below w0.heap.size w0 wq) w6 := ⟨x4, hB⟩
    refine region_fs (n := 10) [some (.int .i64 ((e : Nat) : Int)), some (Str l), some (.int .i64 ((l.length : Nat) : Int)), some (.bool false), some (.bool false), some undef, some undef, some undef, some undef, some (.bool false)] 10 (fun wq => RowT wq b4 35 (tokC 0 [] 0 0) ∧ Below w0.heap.size w0 wq) (fun _ _ => True) hF0 trivial (by rw [hz]; kernel_rfl) (by kernel_rfl) (by kernel_rfl) (by kernel_rfl) ?_ fun L a24 w24 hL st => ?_
    · refine ⟨⟨⟨⟨⟨⟨⟨⟨⟨⟨trivial, ?_⟩, ?_⟩, ?_⟩, ?_⟩, ?_⟩, ?_⟩, ?_⟩, ?_⟩, ?_⟩, ?_⟩
      · intro oo aa ww LL hho hho2 haft st; obtain rfl := Option.some.inj hho; exact payF_move st (by decide) (want_none rfl) rfl (st.outV (by kernel_rfl) e6) rfl
      · intro oo aa ww LL hho hho2 haft st; obtain rfl := Option.some.inj hho; exact payF_move st (by decide) (want_none rfl) rfl (st.outV (by kernel_rfl) e0) rfl
      · intro oo aa ww LL hho hho2 haft st; obtain rfl := Option.some.inj hho; exact payF st (by decide) (want_none rfl) (fun ww hF => by obtain ⟨x4, hB⟩ := hF; exact run_lenS rfl (st.argF (j := 1) (aft_of haft (by kernel_rfl)) rfl rfl)) rfl
      · intro oo aa ww LL hho hho2 haft st; obtain rfl := Option.some.inj hho; exact payF st (by decide) (want_none rfl) (fun ww hF => by obtain ⟨x4, hB⟩ := hF; exact (run_ltI rfl (st.argF (j := 0) (aft_of haft (by kernel_rfl)) rfl rfl) (st.argF (j := 2) (aft_of haft (by kernel_rfl)) rfl rfl)).trans (okB (c := false) (decide_eq_false (by omega)))) rfl
      · intro oo aa ww LL hho hho2 haft st; obtain rfl := Option.some.inj hho; exact payF_move st (by decide) (want_none rfl) rfl (st.argF (j := 3) (aft_of haft (by kernel_rfl)) rfl rfl) rfl
      · intro oo aa ww LL hho hho2 haft st; obtain rfl := Option.some.inj hho; exact st.skipF (by decide) haft rfl (by kernel_rfl) rfl (.inl rfl) rfl
      · intro oo aa ww LL hho hho2 haft st; obtain rfl := Option.some.inj hho; exact st.skipF (by decide) haft rfl (by kernel_rfl) rfl (.inl rfl) rfl
      · intro oo aa ww LL hho hho2 haft st; obtain rfl := Option.some.inj hho; exact st.skipF (by decide) haft rfl (by kernel_rfl) rfl (.inl rfl) rfl
      · intro oo aa ww LL hho hho2 haft st; obtain rfl := Option.some.inj hho; exact st.skipF (by decide) haft rfl (by kernel_rfl) rfl (.inl rfl) rfl
      · intro oo aa ww LL hho hho2 haft st; obtain rfl := Option.some.inj hho; exact payF_pick st (by decide) (want_none rfl) rfl (st.argF (j := 4) (aft_of haft (by kernel_rfl)) rfl rfl) rfl rfl
    have k24 : KeepM 11 [] a6 a24 := st.keepM (by kernel_rfl)
    have hgf := st.g
    unfold GF at hgf
    have e64 : a24.eval (.tmp 64) = (.bool false) := st.argF (j := 9) (hL 9 (by omega)) rfl rfl
    clear hF0 hCF hCX hS x4 hB
    replace hgf := hgf.1
    obtain ⟨x4, hB⟩ := hgf
    clear st hL L
    replace e0 := k24.ev e0 (by decide)
    replace e1 := k24.ev e1 (by decide)
    replace e4 := k24.ev e4 (by decide)
    replace e5 := k24.ev e5 (by decide)
    replace e6 := k24.ev e6 (by decide)
    replace hz := k24.size.trans hz
    replace hd := k24.defers.trans hd
    replace kk2 := kk2.trans (k24.mono (ys := [6]) (by decide))
    have hS := hB.size
    refine wp_cond_false e64 ?_
    refine wp_exit ?_
    refine exit_here1 (id := 2) ?_
    have hel2 : e = l.length := by omega
    have htw : (l.drop p).take (e - p) = (l.drop p).takeWhile isDigit := tw_eq hpe hel hall (fun c hc => by rw [hel2, List.getElem?_eq_none (Nat.le_refl _)] at hc; cases hc)
    have hdg : ∀ c ∈ (l.drop p).take (e - p), 48 ≤ c.toNat ∧ c.toNat ≤ 57 := dig_of hall
    refine wp_seq ?_
    refine seq_startL (l := [0, 1, 2, 3, 4, 5, 6, 7, 8, 9]) (by kernel_rfl) ?_
    refine seq_move 68 (v := (Str l)) rfl rfl rfl rfl e0 ?_
    refine seq_move 69 (v := (.int .i64 ((p : Nat) : Int))) rfl rfl rfl rfl ((ev_ne (by decide)).trans e1) ?_
    refine seq_move 70 (v := (.int .i64 ((e : Nat) : Int))) rfl rfl rfl rfl ((ev_ne (by decide)).trans ((ev_ne (by decide)).trans e6)) ?_
    refine seq_valD 71 (v := (Str ((l.drop p).take (e - p)))) rfl rfl rfl (run_slcS rfl ((ev_ne (by decide)).trans ((ev_ne (by decide)).trans (ev_same (by first | (rw [hz]; decide) | (simp only [size_put, hz]; decide))))) ((ev_ne (by decide)).trans (ev_same (by first | (rw [hz]; decide) | (simp only [size_put, hz]; decide)))) (ev_same (by first | (rw [hz]; decide) | (simp only [size_put, hz]; decide))) hpe hel) ?_
    refine seq_callD 72 rfl rfl rfl en_ref_number rfl (args_one (ev_same (by first | (rw [hz]; decide) | (simp only [size_put, hz]; decide)))) ((ref_number ((l.drop p).take (e - p)) w24 hdg).mono ?_)
    rintro e w25 ⟨rfl, hb25⟩
    refine ⟨_, rfl, ?_⟩
    replace x4 := x4.below hb25 x4.lt
    replace hB := Below.next hB hb25
    replace hS := hB.size
    refine seq_move 67 (v := (.tuple #[.int .i64 (numOf ((l.drop p).take (e - p))).1, .bool (numOf ((l.drop p).take (e - p))).2])) rfl rfl rfl rfl (ev_same (by first | (rw [hz]; decide) | (simp only [size_put, hz]; decide))) ?_
    refine seq_valD 73 (v := (.int .i64 (numOf ((l.drop p).take (e - p))).1)) rfl rfl rfl (run_ext0 rfl (ev_same (by first | (rw [hz]; decide) | (simp only [size_put, hz]; decide)))) ?_
    refine seq_valD 74 (v := (.bool (numOf ((l.drop p).take (e - p))).2)) rfl rfl rfl (run_ext1 rfl ((ev_ne (by decide)).trans (ev_same (by first | (rw [hz]; decide) | (simp only [size_put, hz]; decide))))) ?_
    refine seq_assign 7 (v := (.int .i64 (numOf ((l.drop p).take (e - p))).1)) rfl rfl rfl rfl ((ev_ne (by decide)).trans (ev_same (by first | (rw [hz]; decide) | (simp only [size_put, hz]; decide)))) ?_
    refine seq_assign 8 (v := (.bool (numOf ((l.drop p).take (e - p))).2)) rfl rfl rfl rfl ((ev_ne (by decide)).trans (ev_same (by first | (rw [hz]; decide) | (simp only [size_put, hz]; decide)))) ?_
    refine seq_nil ?_
    refine seq_out (((((((((((KeepM.refl 11 [7, 8] a24).put (by decide)).put (by decide)).put (by decide)).put (by decide)).put (by decide)).put (by decide)).put (by decide)).put (by decide)).put (by decide)).put (by decide)) fun a26 k26 tr => ?_
    have f7 := tr 7 (.int .i64 (numOf ((l.drop p).take (e - p))).1) ((ev_ne (by decide)).trans (ev_same (by first | (rw [hz]; decide) | (simp only [size_put, hz]; decide))))
    have f8 := tr 8 (.bool (numOf ((l.drop p).take (e - p))).2) (ev_same (by first | (rw [hz]; decide) | (simp only [size_put, hz]; decide)))
    clear tr
    replace e0 := k26.ev e0 (by decide)
    replace e1 := k26.ev e1 (by decide)
    replace e4 := k26.ev e4 (by decide)
    replace e5 := k26.ev e5 (by decide)
    replace e6 := k26.ev e6 (by decide)
    replace hz := k26.size.trans hz
    replace hd := k26.defers.trans hd
    have e7 := f7
    clear f7
    have e8 := f8
    clear f8
    refine wp_seq ?_
    refine wp_seq ?_
    cases his : (numOf ((l.drop p).take (e - p))).2 with
    | false =>
      rw [his] at e8
      have hone : numAt (l.drop p) = none := num_no (by rw [← htw]; exact .inl his)
      have hCF : Calm (fun wq => RowT wq b4 35 (tokC 0 [] 0 0) ∧ Below w0.heap.size w0 wq) := fun _ _ hb hF => by obtain ⟨x4, hB⟩ := hF; exact ⟨x4.below hb x4.lt, Below.next hB hb⟩
      have hCX : ∀ bb : Bool, Calm ((fun (_ : Bool) (_ : World) => True) bb) := fun _ _ _ _ _ => trivial
      have hF0 : (fun wq => RowT wq b4 35 (tokC 0 [] 0 0) ∧ Below w0.heap.size w0 wq) w25 := ⟨x4, hB⟩
      refine region_fs (n := 20) [some (.bool false), some (.bool true), some (.bool true), some undef, some undef, some undef, some undef, some undef, some undef, some undef, some undef, some undef, some undef, some undef, some undef, some undef, some undef, some undef, some undef, some (.bool true)] 20 (fun wq => RowT wq b4 35 (tokC 0 [] 0 0) ∧ Below w0.heap.size w0 wq) (fun _ _ => True) hF0 trivial (by rw [hz]; kernel_rfl) (by kernel_rfl) (by kernel_rfl) (by kernel_rfl) ?_ fun L a27 w27 hL st => ?_
      · refine ⟨⟨⟨⟨⟨⟨⟨⟨⟨⟨⟨⟨⟨⟨⟨⟨⟨⟨⟨⟨trivial, ?_⟩, ?_⟩, ?_⟩, ?_⟩, ?_⟩, ?_⟩, ?_⟩, ?_⟩, ?_⟩, ?_⟩, ?_⟩, ?_⟩, ?_⟩, ?_⟩, ?_⟩, ?_⟩, ?_⟩, ?_⟩, ?_⟩, ?_⟩
        · intro oo aa ww LL hho hho2 haft st; obtain rfl := Option.some.inj hho; exact payF_move st (by decide) (want_none rfl) rfl (st.outV (by kernel_rfl) e8) rfl
        · intro oo aa ww LL hho hho2 haft st; obtain rfl := Option.some.inj hho; exact payF st (by decide) (want_none rfl) (fun ww hF => by obtain ⟨x4, hB⟩ := hF; exact run_not rfl (st.argF (j := 0) (aft_of haft (by kernel_rfl)) rfl rfl)) rfl
        · intro oo aa ww LL hho hho2 haft st; obtain rfl := Option.some.inj hho; exact payF_move st (by decide) (want_none rfl) rfl (st.argF (j := 1) (aft_of haft (by kernel_rfl)) rfl rfl) rfl
        · intro oo aa ww LL hho hho2 haft st; obtain rfl := Option.some.inj hho; exact st.skipF (by decide) haft rfl (by kernel_rfl) rfl (.inl rfl) rfl
        · intro oo aa ww LL hho hho2 haft st; obtain rfl := Option.some.inj hho; exact st.skipF (by decide) haft rfl (by kernel_rfl) rfl (.inl rfl) rfl
        · intro oo aa ww LL hho hho2 haft st; obtain rfl := Option.some.inj hho; exact st.skipF (by decide) haft rfl (by kernel_rfl) rfl (.inl rfl) rfl
        · intro oo aa ww LL hho hho2 haft st; obtain rfl := Option.some.inj hho; exact st.skipF (by decide) haft rfl (by kernel_rfl) rfl (.inl rfl) rfl
        · intro oo aa ww LL hho hho2 haft st; obtain rfl := Option.some.inj hho; exact st.skipF (by decide) haft rfl (by kernel_rfl) rfl (.inl rfl) rfl
        · intro oo aa ww LL hho hho2 haft st; obtain rfl := Option.some.inj hho; exact st.skipF (by decide) haft rfl (by kernel_rfl) rfl (.inr rfl) rfl
        · intro oo aa ww LL hho hho2 haft st; obtain rfl := Option.some.inj hho; exact st.skipF (by decide) haft rfl (by kernel_rfl) rfl (.inr rfl) rfl
        · intro oo aa ww LL hho hho2 haft st; obtain rfl := Option.some.inj hho; exact st.skipF (by decide) haft rfl (by kernel_rfl) rfl (.inr rfl) rfl
        · intro oo aa ww LL hho hho2 haft st; obtain rfl := Option.some.inj hho; exact st.skipF (by decide) haft rfl (by kernel_rfl) rfl (.inr rfl) rfl
        · intro oo aa ww LL hho hho2 haft st; obtain rfl := Option.some.inj hho; exact st.skipF (by decide) haft rfl (by kernel_rfl) rfl (.inr rfl) rfl
        · intro oo aa ww LL hho hho2 haft st; obtain rfl := Option.some.inj hho; exact st.skipF (by decide) haft rfl (by kernel_rfl) rfl (.inr rfl) rfl
        · intro oo aa ww LL hho hho2 haft st; obtain rfl := Option.some.inj hho; exact st.skipF (by decide) haft rfl (by kernel_rfl) rfl (.inr rfl) rfl
        · intro oo aa ww LL hho hho2 haft st; obtain rfl := Option.some.inj hho; exact st.skipF (by decide) haft rfl (by kernel_rfl) rfl (.inr rfl) rfl
        · intro oo aa ww LL hho hho2 haft st; obtain rfl := Option.some.inj hho; exact st.skipF (by decide) haft rfl (by kernel_rfl) rfl (.inr rfl) rfl
        · intro oo aa ww LL hho hho2 haft st; obtain rfl := Option.some.inj hho; exact st.skipF (by decide) haft rfl (by kernel_rfl) rfl (.inr rfl) rfl
        · intro oo aa ww LL hho hho2 haft st; obtain rfl := Option.some.inj hho; exact st.skipF (by decide) haft rfl (by kernel_rfl) rfl (.inl rfl) rfl
        · intro oo aa ww LL hho hho2 haft st; obtain rfl := Option.some.inj hho; exact payF_pick st (by decide) (want_none rfl) rfl (st.argF (j := 2) (aft_of haft (by kernel_rfl)) rfl rfl) rfl rfl
      have k27 : KeepM 11 [] a26 a27 := st.keepM (by kernel_rfl)
      have hgf := st.g
      unfold GF at hgf
      have e94 : a27.eval (.tmp 94) = (.bool true) := st.argF (j := 19) (hL 19 (by omega)) rfl rfl
      clear hF0 hCF hCX hS x4 hB
      replace hgf := hgf.1
      obtain ⟨x4, hB⟩ := hgf
      clear st hL L
      replace e0 := k27.ev e0 (by decide)
      replace e1 := k27.ev e1 (by decide)
      replace e4 := k27.ev e4 (by decide)
      replace e5 := k27.ev e5 (by decide)
      replace e6 := k27.ev e6 (by decide)
      replace e7 := k27.ev e7 (by decide)
      replace e8 := k27.ev e8 (by decide)
      replace hz := k27.size.trans hz
      replace hd := k27.defers.trans hd
      have hS := hB.size
      refine wp_cond_true e94 ?_
      refine wp_seq ?_
      refine seq_startL (l := [0, 1, 2]) (by kernel_rfl) ?_
      refine seq_valD 95 (v := (.agg (tokC 0 [] 0 0).toArray)) rfl rfl rfl (run_tok0 rfl ) ?_
      refine seq_skipD rfl rfl rfl (run_stTok rfl ((ev_ne (by decide)).trans e4) (ev_same (by first | (rw [hz]; decide) | (simp only [size_put, hz]; decide))) x4 rfl) ?_
      have y4 : RowT (setCells w27 b4 0 (tokC 0 [] 0 0)) b4 35 (tokC 0 [] 0 0) := (x4.setTok rfl 0 [] 0 0)
      replace hB := below_setCells hB hge4 (tokC 0 [] 0 0) 0
      have x4 := y4
      clear y4
      generalize (setCells w27 b4 0 (tokC 0 [] 0 0)) = w28 at x4 hB ⊢
      replace hS := hB.size
      refine seq_assign 5 (v := (.bool false)) rfl rfl rfl rfl rfl ?_
      refine seq_nil ?_
      refine seq_out (((KeepM.refl 11 [5] a27).put (by decide)).put (by decide)) fun a29 k29 tr => ?_
      have f5 := tr 5 (.bool false) (ev_same (by first | (rw [hz]; decide) | (simp only [size_put, hz]; decide)))
      clear tr
      replace e0 := k29.ev e0 (by decide)
      replace e1 := k29.ev e1 (by decide)
      replace e4 := k29.ev e4 (by decide)
      replace e6 := k29.ev e6 (by decide)
      replace e7 := k29.ev e7 (by decide)
      replace e8 := k29.ev e8 (by decide)
      replace hz := k29.size.trans hz
      replace hd := k29.defers.trans hd
      have e5 := f5
      clear f5
      refine wp_ret ?_
      exact post_tokB rfl hd e4 x4 e5 (by intro h; cases h) ⟨by rw [hone]; rfl, hB⟩
    | true =>
      rw [his] at e8
      have hone : numAt (l.drop p) = some (numOf ((l.drop p).take (e - p))).1 := num_yes htw his (fun c hc => by rw [hel2, List.getElem?_eq_none (Nat.le_refl _)] at hc; cases hc) hpe
      have hCF : Calm (fun wq => RowT wq b4 35 (tokC 0 [] 0 0) ∧ Below w0.heap.size w0 wq) := fun _ _ hb hF => by obtain ⟨x4, hB⟩ := hF; exact ⟨x4.below hb x4.lt, Below.next hB hb⟩
      have hCX : ∀ bb : Bool, Calm ((fun (_ : Bool) (_ : World) => True) bb) := fun _ _ _ _ _ => trivial
      have hF0 : (fun wq => RowT wq b4 35 (tokC 0 [] 0 0) ∧ Below w0.heap.size w0 wq) w25 := ⟨x4, hB⟩
      refine region_fs (n := 20) [some (.bool true), some (.bool false), some (.bool false), some (.int .i64 ((e : Nat) : Int)), some (Str l), some (.int .i64 ((l.length : Nat) : Int)), some (.bool false), some (.bool false), some undef, some undef, some undef, some undef, some undef, some undef, some undef, some undef, some undef, some undef, some (.bool false), some (.bool false)] 20 (fun wq => RowT wq b4 35 (tokC 0 [] 0 0) ∧ Below w0.heap.size w0 wq) (fun _ _ => True) hF0 trivial (by rw [hz]; kernel_rfl) (by kernel_rfl) (by kernel_rfl) (by kernel_rfl) ?_ fun L a30 w30 hL st => ?_
      · refine ⟨⟨⟨⟨⟨⟨⟨⟨⟨⟨⟨⟨⟨⟨⟨⟨⟨⟨⟨⟨trivial, ?_⟩, ?_⟩, ?_⟩, ?_⟩, ?_⟩, ?_⟩, ?_⟩, ?_⟩, ?_⟩, ?_⟩, ?_⟩, ?_⟩, ?_⟩, ?_⟩, ?_⟩, ?_⟩, ?_⟩, ?_⟩, ?_⟩, ?_⟩
        · intro oo aa ww LL hho hho2 haft st; obtain rfl := Option.some.inj hho; exact payF_move st (by decide) (want_none rfl) rfl (st.outV (by kernel_rfl) e8) rfl
        · intro oo aa ww LL hho hho2 haft st; obtain rfl := Option.some.inj hho; exact payF st (by decide) (want_none rfl) (fun ww hF => by obtain ⟨x4, hB⟩ := hF; exact run_not rfl (st.argF (j := 0) (aft_of haft (by kernel_rfl)) rfl rfl)) rfl
        · intro oo aa ww LL hho hho2 haft st; obtain rfl := Option.some.inj hho; exact payF_move st (by decide) (want_none rfl) rfl (st.argF (j := 1) (aft_of haft (by kernel_rfl)) rfl rfl) rfl
        · intro oo aa ww LL hho hho2 haft st; obtain rfl := Option.some.inj hho; exact payF_move st (by decide) (st.wantF haft rfl (by kernel_rfl) rfl) rfl (st.outV (by kernel_rfl) e6) rfl
        · intro oo aa ww LL hho hho2 haft st; obtain rfl := Option.some.inj hho; exact payF_move st (by decide) (st.wantF haft rfl (by kernel_rfl) rfl) rfl (st.outV (by kernel_rfl) e0) rfl
        · intro oo aa ww LL hho hho2 haft st; obtain rfl := Option.some.inj hho; exact payF st (by decide) (st.wantF haft rfl (by kernel_rfl) rfl) (fun ww hF => by obtain ⟨x4, hB⟩ := hF; exact run_lenS rfl (st.argF (j := 4) (aft_of haft (by kernel_rfl)) rfl rfl)) rfl
        · intro oo aa ww LL hho hho2 haft st; obtain rfl := Option.some.inj hho; exact payF st (by decide) (st.wantF haft rfl (by kernel_rfl) rfl) (fun ww hF => by obtain ⟨x4, hB⟩ := hF; exact (run_ltI rfl (st.argF (j := 3) (aft_of haft (by kernel_rfl)) rfl rfl) (st.argF (j := 5) (aft_of haft (by kernel_rfl)) rfl rfl)).trans (okB (c := false) (decide_eq_false (by omega)))) rfl
        · intro oo aa ww LL hho hho2 haft st; obtain rfl := Option.some.inj hho; exact payF_move st (by decide) (st.wantF haft rfl (by kernel_rfl) rfl) rfl (st.argF (j := 6) (aft_of haft (by kernel_rfl)) rfl rfl) rfl
        · intro oo aa ww LL hho hho2 haft st; obtain rfl := Option.some.inj hho; exact st.skipF (by decide) haft rfl (by kernel_rfl) rfl (.inl rfl) rfl
        · intro oo aa ww LL hho hho2 haft st; obtain rfl := Option.some.inj hho; exact st.skipF (by decide) haft rfl (by kernel_rfl) rfl (.inl rfl) rfl
        · intro oo aa ww LL hho hho2 haft st; obtain rfl := Option.some.inj hho; exact st.skipF (by decide) haft rfl (by kernel_rfl) rfl (.inl rfl) rfl
        · intro oo aa ww LL hho hho2 haft st; obtain rfl := Option.some.inj hho; exact st.skipF (by decide) haft rfl (by kernel_rfl) rfl (.inl rfl) rfl
        · intro oo aa ww LL hho hho2 haft st; obtain rfl := Option.some.inj hho; exact st.skipF (by decide) haft rfl (by kernel_rfl) rfl (.inl rfl) rfl
        · intro oo aa ww LL hho hho2 haft st; obtain rfl := Option.some.inj hho; exact st.skipF (by decide) haft rfl (by kernel_rfl) rfl (.inr rfl) rfl
        · intro oo aa ww LL hho hho2 haft st; obtain rfl := Option.some.inj hho; exact st.skipF (by decide) haft rfl (by kernel_rfl) rfl (.inr rfl) rfl
        · intro oo aa ww LL hho hho2 haft st; obtain rfl := Option.some.inj hho; exact st.skipF (by decide) haft rfl (by kernel_rfl) rfl (.inr rfl) rfl
        · intro oo aa ww LL hho hho2 haft st; obtain rfl := Option.some.inj hho; exact st.skipF (by decide) haft rfl (by kernel_rfl) rfl (.inr rfl) rfl
        · intro oo aa ww LL hho hho2 haft st; obtain rfl := Option.some.inj hho; exact st.skipF (by decide) haft rfl (by kernel_rfl) rfl (.inl rfl) rfl
        · intro oo aa ww LL hho hho2 haft st; obtain rfl := Option.some.inj hho; exact payF_pick st (by decide) (st.wantF haft rfl (by kernel_rfl) rfl) rfl (st.argF (j := 7) (aft_of haft (by kernel_rfl)) rfl rfl) rfl rfl
        · intro oo aa ww LL hho hho2 haft st; obtain rfl := Option.some.inj hho; exact payF_pick st (by decide) (want_none rfl) rfl (st.argF (j := 2) (aft_of haft (by kernel_rfl)) rfl rfl) (st.argF (j := 18) (aft_of haft (by kernel_rfl)) rfl rfl) rfl
      have k30 : KeepM 11 [] a26 a30 := st.keepM (by kernel_rfl)
      have hgf := st.g
      unfold GF at hgf
      have e94 : a30.eval (.tmp 94) = (.bool false) := st.argF (j := 19) (hL 19 (by omega)) rfl rfl
      clear hF0 hCF hCX hS x4 hB
      replace hgf := hgf.1
      obtain ⟨x4, hB⟩ := hgf
      clear st hL L
      replace e0 := k30.ev e0 (by decide)
      replace e1 := k30.ev e1 (by decide)
      replace e4 := k30.ev e4 (by decide)
      replace e5 := k30.ev e5 (by decide)
      replace e6 := k30.ev e6 (by decide)
      replace e7 := k30.ev e7 (by decide)
      replace e8 := k30.ev e8 (by decide)
      replace hz := k30.size.trans hz
      replace hd := k30.defers.trans hd
      have hS := hB.size
      refine wp_cond_false e94 ?_
      refine wp_skip ?_
      refine wp_seq ?_
      refine seq_startL (l := [0, 1, 2, 3, 4, 5, 6, 7, 8]) (by kernel_rfl) ?_
      refine seq_move 96 (v := (Str l)) rfl rfl rfl rfl e0 ?_
      refine seq_move 97 (v := (.int .i64 ((p : Nat) : Int))) rfl rfl rfl rfl ((ev_ne (by decide)).trans e1) ?_
      refine seq_move 98 (v := (.int .i64 ((e : Nat) : Int))) rfl rfl rfl rfl ((ev_ne (by decide)).trans ((ev_ne (by decide)).trans e6)) ?_
      refine seq_valD 99 (v := (Str ((l.drop p).take (e - p)))) rfl rfl rfl (run_slcS rfl ((ev_ne (by decide)).trans ((ev_ne (by decide)).trans (ev_same (by first | (rw [hz]; decide) | (simp only [size_put, hz]; decide))))) ((ev_ne (by decide)).trans (ev_same (by first | (rw [hz]; decide) | (simp only [size_put, hz]; decide)))) (ev_same (by first | (rw [hz]; decide) | (simp only [size_put, hz]; decide))) hpe hel) ?_
      refine seq_move 100 (v := (.int .i64 (numOf ((l.drop p).take (e - p))).1)) rfl rfl rfl rfl ((ev_ne (by decide)).trans ((ev_ne (by decide)).trans ((ev_ne (by decide)).trans ((ev_ne (by decide)).trans e7)))) ?_
      refine seq_move 101 (v := (.int .i64 ((p : Nat) : Int))) rfl rfl rfl rfl ((ev_ne (by decide)).trans ((ev_ne (by decide)).trans ((ev_ne (by decide)).trans ((ev_ne (by decide)).trans ((ev_ne (by decide)).trans e1))))) ?_
      refine seq_valD 102 (v := (.agg (tokC 3 ((l.drop p).take (e - p)) (numOf ((l.drop p).take (e - p))).1 ((p : Nat) : Int)).toArray)) rfl rfl rfl (run_tok0123 rfl rfl ((ev_ne (by decide)).trans ((ev_ne (by decide)).trans (ev_same (by first | (rw [hz]; decide) | (simp only [size_put, hz]; decide))))) ((ev_ne (by decide)).trans (ev_same (by first | (rw [hz]; decide) | (simp only [size_put, hz]; decide)))) (ev_same (by first | (rw [hz]; decide) | (simp only [size_put, hz]; decide)))) ?_
      refine seq_skipD rfl rfl rfl (run_stTok rfl ((ev_ne (by decide)).trans ((ev_ne (by decide)).trans ((ev_ne (by decide)).trans ((ev_ne (by decide)).trans ((ev_ne (by decide)).trans ((ev_ne (by decide)).trans ((ev_ne (by decide)).trans e4))))))) (ev_same (by first | (rw [hz]; decide) | (simp only [size_put, hz]; decide))) x4 rfl) ?_
      have y4 : RowT (setCells w30 b4 0 (tokC 3 ((l.drop p).take (e - p)) (numOf ((l.drop p).take (e - p))).1 ((p : Nat) : Int))) b4 35 (tokC 3 ((l.drop p).take (e - p)) (numOf ((l.drop p).take (e - p))).1 ((p : Nat) : Int)) := (x4.setTok rfl 3 ((l.drop p).take (e - p)) (numOf ((l.drop p).take (e - p))).1 ((p : Nat) : Int))
      replace hB := below_setCells hB hge4 (tokC 3 ((l.drop p).take (e - p)) (numOf ((l.drop p).take (e - p))).1 ((p : Nat) : Int)) 0
      have x4 := y4
      clear y4
      generalize (setCells w30 b4 0 (tokC 3 ((l.drop p).take (e - p)) (numOf ((l.drop p).take (e - p))).1 ((p : Nat) : Int))) = w31 at x4 hB ⊢
      replace hS := hB.size
      refine seq_assign 5 (v := (.bool true)) rfl rfl rfl rfl rfl ?_
      refine seq_nil ?_
      refine seq_out (((((((((KeepM.refl 11 [5] a30).put (by decide)).put (by decide)).put (by decide)).put (by decide)).put (by decide)).put (by decide)).put (by decide)).put (by decide)) fun a32 k32 tr => ?_
      have f5 := tr 5 (.bool true) (ev_same (by first | (rw [hz]; decide) | (simp only [size_put, hz]; decide)))
      clear tr
      replace e0 := k32.ev e0 (by decide)
      replace e1 := k32.ev e1 (by decide)
      replace e4 := k32.ev e4 (by decide)
      replace e6 := k32.ev e6 (by decide)
      replace e7 := k32.ev e7 (by decide)
      replace e8 := k32.ev e8 (by decide)
      replace hz := k32.size.trans hz
      replace hd := k32.defers.trans hd
      have e5 := f5
      clear f5
      refine wp_ret ?_
      exact post_tokB rfl hd e4 x4 e5 (by intro h; cases h) ⟨by rw [← htw, hone]; rfl, hB⟩
set_option maxRecDepth 100000 in
set_option maxHeartbeats 4000000 in
theorem ref_one_sign (l : List UInt8) (p : Nat) (w0 : World) {c : UInt8} (hc : l[p]? = some c) (hp : p < l.length) (hlen : l.length ≤ 4611686018427387904) (hlet : isLetter c = false) (hdig : isDigit c = false) : Calls Tryd.prog 27 #[Str l, .int .i64 ((p : Nat) : Int)] w0 (Ret w0 (oneV ((signAt (l.drop p)).map fun q => (4, q, 0)) p)) := by
  refine calls_of_wp Tryd.func27 rfl ?_
  obtain ⟨hz, e0, e1⟩ := start_act2 144 ((Str l)) ((.int .i64 ((p : Nat) : Int))) (by decide)
  have hd : ({ tmps := #[(Str l), (.int .i64 ((p : Nat) : Int))] ++ Array.replicate (144 - 2) undef, defers := [] } : Act).defers = [] := rfl
  rw [show Tryd.f27.ntmps - (#[(Str l), (.int .i64 ((p : Nat) : Int))] : Array Value).size = 144 - 2 from rfl]
  generalize ({ tmps := #[(Str l), (.int .i64 ((p : Nat) : Int))] ++ Array.replicate (144 - 2) undef, defers := [] } : Act) = a0 at hz e0 e1 hd ⊢
  have hB : Below w0.heap.size w0 w0 := Below.refl _ _
  have hS := hB.size
  refine wp_seq ?_
  refine seq_startL (l := [0, 1]) (by kernel_rfl) ?_
  refine seq_valD 4 rfl rfl rfl (run_allocTok rfl) ?_
  have x4 := RowT.new w0 35 (tokC 0 [] 0 0)
  replace hB := hB.al (o := .cells ((tokC 0 [] 0 0) : List Value).toArray 35)
  change wpOps _ _ _ _ _ (w0.alloc (.cells ((tokC 0 [] 0 0) : List Value).toArray 35))
  generalize (w0.alloc (.cells ((tokC 0 [] 0 0) : List Value).toArray 35)) = w1 at x4 hB ⊢
  generalize hbq4 : w0.heap.size = b4 at x4 ⊢
  have hge4 : w0.heap.size ≤ b4 := by rw [← hbq4]; exact hS
  clear hbq4
  have hS := hB.size
  refine seq_assign 5 (v := (.bool false)) rfl rfl rfl rfl rfl ?_
  refine seq_nil ?_
  refine seq_out (((KeepM.refl 11 [4, 5] a0).put (by decide)).put (by decide)) fun a2 k2 tr => ?_
  have f4 := tr 4 (.pointer (some ⟨b4, 0, none⟩)) ((ev_ne (by decide)).trans (ev_same (by first | (rw [hz]; decide) | (simp only [size_put, hz]; decide))))
  have f5 := tr 5 (.bool false) (ev_same (by first | (rw [hz]; decide) | (simp only [size_put, hz]; decide)))
  clear tr
  replace e0 := k2.ev e0 (by decide)
  replace e1 := k2.ev e1 (by decide)
  replace hz := k2.size.trans hz
  replace hd := k2.defers.trans hd
  have e4 := f4
  clear f4
  have e5 := f5
  clear f5
  refine wp_seq ?_
  refine seq_startL (l := [0, 1]) (by kernel_rfl) ?_
  refine seq_move 11 (v := (.int .i64 ((p : Nat) : Int))) rfl rfl rfl rfl e1 ?_
  refine seq_assign 6 (v := (.int .i64 ((p : Nat) : Int))) rfl rfl rfl rfl (ev_same (by first | (rw [hz]; decide) | (simp only [size_put, hz]; decide))) ?_
  refine seq_nil ?_
  refine seq_out (((KeepM.refl 11 [6] a2).put (by decide)).put (by decide)) fun a3 k3 tr => ?_
  have f6 := tr 6 (.int .i64 ((p : Nat) : Int)) (ev_same (by first | (rw [hz]; decide) | (simp only [size_put, hz]; decide)))
  clear tr
  replace e0 := k3.ev e0 (by decide)
  replace e1 := k3.ev e1 (by decide)
  replace e4 := k3.ev e4 (by decide)
  replace e5 := k3.ev e5 (by decide)
  replace hz := k3.size.trans hz
  replace hd := k3.defers.trans hd
  have e6 := f6
  clear f6
  refine wp_seq ?_
  refine wp_seq ?_
  have hCF : Calm (fun wq => RowT wq b4 35 (tokC 0 [] 0 0) ∧ Below w0.heap.size w0 wq) := fun _ _ hb hF => by obtain ⟨x4, hB⟩ := hF; exact ⟨x4.below hb x4.lt, Below.next hB hb⟩
  have hCX : ∀ bb : Bool, Calm ((fun (_ : Bool) (_ : World) => True) bb) := fun _ _ _ _ _ => trivial
  have hF0 : (fun wq => RowT wq b4 35 (tokC 0 [] 0 0) ∧ Below w0.heap.size w0 wq) w1 := ⟨x4, hB⟩
  refine region_fs (n := 4) [some (Str l), some (.int .i64 ((p : Nat) : Int)), some (.int .u8 ((c.toNat : Nat) : Int)), some (.bool false)] 4 (fun wq => RowT wq b4 35 (tokC 0 [] 0 0) ∧ Below w0.heap.size w0 wq) (fun _ _ => True) hF0 trivial (by rw [hz]; kernel_rfl) (by kernel_rfl) (by kernel_rfl) (by kernel_rfl) ?_ fun L a4 w4 hL st => ?_
  · refine ⟨⟨⟨⟨trivial, ?_⟩, ?_⟩, ?_⟩, ?_⟩
    · intro oo aa ww LL hho hho2 haft st; obtain rfl := Option.some.inj hho; exact payF_move st (by decide) (want_none rfl) rfl (st.outV (by kernel_rfl) e0) rfl
    · intro oo aa ww LL hho hho2 haft st; obtain rfl := Option.some.inj hho; exact payF_move st (by decide) (want_none rfl) rfl (st.outV (by kernel_rfl) e1) rfl
    · intro oo aa ww LL hho hho2 haft st; obtain rfl := Option.some.inj hho; exact payF st (by decide) (want_none rfl) (fun ww hF => by obtain ⟨x4, hB⟩ := hF; exact run_idxS (k := p) rfl (st.argF (j := 0) (aft_of haft (by kernel_rfl)) rfl rfl) (st.argF (j := 1) (aft_of haft (by kernel_rfl)) rfl rfl) hc) rfl
    · intro oo aa ww LL hho hho2 haft st; obtain rfl := Option.some.inj hho; exact callF st (by decide) hCF hCX (want_none rfl) en_ref_letter rfl (args_one (st.argF (j := 2) (aft_of haft (by kernel_rfl)) rfl rfl)) (callTF hlet (fun ww _ => ref_letter c ww)) rfl
  have k4 : KeepM 11 [] a3 a4 := st.keepM (by kernel_rfl)
  have hgf := st.g
  unfold GF at hgf
  have e15 : a4.eval (.tmp 15) = (.bool false) := st.argF (j := 3) (hL 3 (by omega)) rfl rfl
  clear hF0 hCF hCX hS x4 hB
  replace hgf := hgf.1
  obtain ⟨x4, hB⟩ := hgf
  clear st hL L
  replace e0 := k4.ev e0 (by decide)
  replace e1 := k4.ev e1 (by decide)
  replace e4 := k4.ev e4 (by decide)
  replace e5 := k4.ev e5 (by decide)
  replace e6 := k4.ev e6 (by decide)
  replace hz := k4.size.trans hz
  replace hd := k4.defers.trans hd
  have hS := hB.size
  refine wp_cond_false e15 ?_
  refine wp_skip ?_
  refine wp_seq ?_
  refine wp_seq ?_
  have hCF : Calm (fun wq => RowT wq b4 35 (tokC 0 [] 0 0) ∧ Below w0.heap.size w0 wq) := fun _ _ hb hF => by obtain ⟨x4, hB⟩ := hF; exact ⟨x4.below hb x4.lt, Below.next hB hb⟩
  have hCX : ∀ bb : Bool, Calm ((fun (_ : Bool) (_ : World) => True) bb) := fun _ _ _ _ _ => trivial
  have hF0 : (fun wq => RowT wq b4 35 (tokC 0 [] 0 0) ∧ Below w0.heap.size w0 wq) w4 := ⟨x4, hB⟩
  refine region_fs (n := 4) [some (Str l), some (.int .i64 ((p : Nat) : Int)), some (.int .u8 ((c.toNat : Nat) : Int)), some (.bool false)] 4 (fun wq => RowT wq b4 35 (tokC 0 [] 0 0) ∧ Below w0.heap.size w0 wq) (fun _ _ => True) hF0 trivial (by rw [hz]; kernel_rfl) (by kernel_rfl) (by kernel_rfl) (by kernel_rfl) ?_ fun L a5 w5 hL st => ?_
  · refine ⟨⟨⟨⟨trivial, ?_⟩, ?_⟩, ?_⟩, ?_⟩
    · intro oo aa ww LL hho hho2 haft st; obtain rfl := Option.some.inj hho; exact payF_move st (by decide) (want_none rfl) rfl (st.outV (by kernel_rfl) e0) rfl
    · intro oo aa ww LL hho hho2 haft st; obtain rfl := Option.some.inj hho; exact payF_move st (by decide) (want_none rfl) rfl (st.outV (by kernel_rfl) e1) rfl
    · intro oo aa ww LL hho hho2 haft st; obtain rfl := Option.some.inj hho; exact payF st (by decide) (want_none rfl) (fun ww hF => by obtain ⟨x4, hB⟩ := hF; exact run_idxS (k := p) rfl (st.argF (j := 0) (aft_of haft (by kernel_rfl)) rfl rfl) (st.argF (j := 1) (aft_of haft (by kernel_rfl)) rfl rfl) hc) rfl
    · intro oo aa ww LL hho hho2 haft st; obtain rfl := Option.some.inj hho; exact callF st (by decide) hCF hCX (want_none rfl) en_ref_digit rfl (args_one (st.argF (j := 2) (aft_of haft (by kernel_rfl)) rfl rfl)) (callTF hdig (fun ww _ => ref_digit c ww)) rfl
  have k5 : KeepM 11 [] a4 a5 := st.keepM (by kernel_rfl)
  have hgf := st.g
  unfold GF at hgf
  have e54 : a5.eval (.tmp 54) = (.bool false) := st.argF (j := 3) (hL 3 (by omega)) rfl rfl
  clear hF0 hCF hCX hS x4 hB
  replace hgf := hgf.1
  obtain ⟨x4, hB⟩ := hgf
  clear st hL L
  replace e0 := k5.ev e0 (by decide)
  replace e1 := k5.ev e1 (by decide)
  replace e4 := k5.ev e4 (by decide)
  replace e5 := k5.ev e5 (by decide)
  replace e6 := k5.ev e6 (by decide)
  replace hz := k5.size.trans hz
  replace hd := k5.defers.trans hd
  have hS := hB.size
  refine wp_cond_false e54 ?_
  refine wp_skip ?_
  refine wp_seq ?_
  refine seq_startL (l := [0, 1]) (by kernel_rfl) ?_
  refine seq_callD 103 rfl rfl rfl en_ref_signs rfl (by simp) ((ref_signs w5).mono ?_)
  rintro e w6 ⟨v6, rfl, ⟨g, rfl, y⟩, hb6⟩
  refine ⟨_, rfl, ?_⟩
  replace x4 := x4.below hb6 x4.lt
  replace hB := Below.next hB hb6
  replace hS := hB.size
  refine seq_assign 9 (v := (.slice (some ⟨g, 0, none⟩) 20 20)) rfl rfl rfl rfl (ev_same (by first | (rw [hz]; decide) | (simp only [size_put, hz]; decide))) ?_
  refine seq_nil ?_
  refine seq_out (((KeepM.refl 11 [9] a5).put (by decide)).put (by decide)) fun a7 k7 tr => ?_
  have f9 := tr 9 (.slice (some ⟨g, 0, none⟩) 20 20) (ev_same (by first | (rw [hz]; decide) | (simp only [size_put, hz]; decide)))
  clear tr
  replace e0 := k7.ev e0 (by decide)
  replace e1 := k7.ev e1 (by decide)
  replace e4 := k7.ev e4 (by decide)
  replace e5 := k7.ev e5 (by decide)
  replace e6 := k7.ev e6 (by decide)
  replace hz := k7.size.trans hz
  replace hd := k7.defers.trans hd
  have e9 := f9
  clear f9
  refine wp_seq ?_
  refine wp_seq ?_
  refine seq_startL (l := [0]) (by kernel_rfl) ?_
  refine seq_assign 10 (v := (.int .i64 0)) rfl rfl rfl rfl rfl ?_
  refine seq_nil ?_
  refine seq_out ((KeepM.refl 11 [10] a7).put (by decide)) fun a8 k8 tr => ?_
  have f10 := tr 10 (.int .i64 0) (ev_same (by first | (rw [hz]; decide) | (simp only [size_put, hz]; decide)))
  clear tr
  replace e0 := k8.ev e0 (by decide)
  replace e1 := k8.ev e1 (by decide)
  replace e4 := k8.ev e4 (by decide)
  replace e5 := k8.ev e5 (by decide)
  replace e6 := k8.ev e6 (by decide)
  replace e9 := k8.ev e9 (by decide)
  replace hz := k8.size.trans hz
  replace hd := k8.defers.trans hd
  have e10 := f10
  clear f10
  have hno : ∀ (j : Nat) (q : List UInt8), j < 0 → signL[j]? = some q → q.isPrefixOf (l.drop p) = false := fun j q h => absurd h (Nat.not_lt_zero j)
  refine wp_block ?_
  refine wp_loop (fun aq wq => ∃ (i : Nat), (i ≤ 20 ∧ ∀ (j : Nat) (q : List UInt8), j < i → signL[j]? = some q → q.isPrefixOf (l.drop p) = false) ∧ KeepM 11 [10] a8 aq ∧ aq.eval (.tmp 10) = (.int .i64 ((i : Nat) : Int)) ∧ RowT wq b4 35 (tokC 0 [] 0 0) ∧ RowT wq g 9 (signL.map Str) ∧ Below w0.heap.size w0 wq) (fun aq _ => 20 - (intOf (aq.eval (.tmp 10))).toNat) ⟨0, ⟨Nat.zero_le _, hno⟩, KeepM.refl _ _ _, e10, x4, y, hB⟩ ?_
  rintro a9 w9 ⟨i, hk4, kk4, g10, qx4, qy, qB⟩
  replace e0 := kk4.ev e0 (by decide)
  replace e1 := kk4.ev e1 (by decide)
  replace e4 := kk4.ev e4 (by decide)
  replace e5 := kk4.ev e5 (by decide)
  replace e6 := kk4.ev e6 (by decide)
  replace e9 := kk4.ev e9 (by decide)
  replace hz := kk4.size.trans hz
  replace hd := kk4.defers.trans hd
  clear e10 x4 y hB hS
  have e10 := g10
  have x4 := qx4
  have y := qy
  have hB := qB
  have hS := hB.size
  clear qx4 qy qB
  obtain ⟨hil, hall⟩ := hk4
  have e10s := e10
  refine wp_seq ?_
  refine wp_seq ?_
  refine seq_startL (l := [0, 1, 2, 3]) (by kernel_rfl) ?_
  refine seq_move 104 (v := (.int .i64 ((i : Nat) : Int))) rfl rfl rfl rfl e10 ?_
  refine seq_move 105 (v := (.slice (some ⟨g, 0, none⟩) 20 20)) rfl rfl rfl rfl ((ev_ne (by decide)).trans e9) ?_
  refine seq_valD 106 (v := (.int .i64 ((20 : Nat) : Int))) rfl rfl rfl (run_lenStr rfl (ev_same (by first | (rw [hz]; decide) | (simp only [size_put, hz]; decide)))) ?_
  refine seq_valD 107 (v := (.bool (decide (((i : Nat) : Int) < ((20 : Nat) : Int))))) rfl rfl rfl (run_ltI rfl ((ev_ne (by decide)).trans ((ev_ne (by decide)).trans (ev_same (by first | (rw [hz]; decide) | (simp only [size_put, hz]; decide))))) (ev_same (by first | (rw [hz]; decide) | (simp only [size_put, hz]; decide)))) ?_
  refine seq_nil ?_
  refine seq_out (((((KeepM.refl 11 [] a9).put (by decide)).put (by decide)).put (by decide)).put (by decide)) fun a10 k10 tr => ?_
  have f107 := tr 107 (.bool (decide (((i : Nat) : Int) < ((20 : Nat) : Int)))) (ev_same (by first | (rw [hz]; decide) | (simp only [size_put, hz]; decide)))
  clear tr
  replace e0 := k10.ev e0 (by decide)
  replace e1 := k10.ev e1 (by decide)
  replace e4 := k10.ev e4 (by decide)
  replace e5 := k10.ev e5 (by decide)
  replace e6 := k10.ev e6 (by decide)
  replace e9 := k10.ev e9 (by decide)
  replace e10 := k10.ev e10 (by decide)
  replace hz := k10.size.trans hz
  replace hd := k10.defers.trans hd
  replace kk4 := kk4.trans (k10.mono (ys := [10]) (by decide))
  have e107 := f107
  clear f107
  by_cases hlti : i < 20
  · rw [decide_eq_true (by omega)] at e107
    refine wp_cond_true e107 ?_
    refine wp_skip ?_
    refine wp_seq ?_
    refine wp_block ?_
    refine wp_seq ?_
    obtain ⟨q, hq⟩ : ∃ q, signL[i]? = some q := ⟨_, List.getElem?_eq_getElem (by simp [signL]; omega)⟩
    have hq2 := sign_len hq
    by_cases hge : q.length ≤ l.length - p
    · by_cases heq : (l.drop p).take (p + q.length - p) = q
      · have hv : q.isPrefixOf (l.drop p) = true := pre_yes heq
        have hCF : Calm (fun wq => RowT wq b4 35 (tokC 0 [] 0 0) ∧ RowT wq g 9 (signL.map Str) ∧ Below w0.heap.size w0 wq) := fun _ _ hb hF => by obtain ⟨x4, y, hB⟩ := hF; exact ⟨x4.below hb x4.lt, y.below hb y.lt, Below.next hB hb⟩
        have hCX : ∀ bb : Bool, Calm ((fun (_ : Bool) (_ : World) => True) bb) := fun _ _ _ _ _ => trivial
        have hF0 : (fun wq => RowT wq b4 35 (tokC 0 [] 0 0) ∧ RowT wq g 9 (signL.map Str) ∧ Below w0.heap.size w0 wq) w9 := ⟨x4, y, hB⟩
        refine region_f (n := 27) [some (Str l), some (.int .i64 ((l.length : Nat) : Int)), some (.int .i64 ((p : Nat) : Int)), some (.int .i64 (((l.length - p) : Nat) : Int)), some (.slice (some ⟨g, 0, none⟩) 20 20), some (.int .i64 ((i : Nat) : Int)), some (.pointer (some ((⟨g, 0, none⟩ : Addr).add i))), some (Str q), some (.int .i64 ((q.length : Nat) : Int)), some (.bool true), some (.bool true), some (Str l), some (.int .i64 ((p : Nat) : Int)), some (.int .i64 ((p : Nat) : Int)), some (.slice (some ⟨g, 0, none⟩) 20 20), some (.int .i64 ((i : Nat) : Int)), some (.pointer (some ((⟨g, 0, none⟩ : Addr).add i))), some (Str q), some (.int .i64 ((q.length : Nat) : Int)), some (.int .i64 (((p + q.length) : Nat) : Int)), some (Str ((l.drop p).take ((p + q.length) - p))), some (.slice (some ⟨g, 0, none⟩) 20 20), some (.int .i64 ((i : Nat) : Int)), some (.pointer (some ((⟨g, 0, none⟩ : Addr).add i))), some (Str q), some (.bool true), some (.bool true)] 27 (fun wq => RowT wq b4 35 (tokC 0 [] 0 0) ∧ RowT wq g 9 (signL.map Str) ∧ Below w0.heap.size w0 wq) (fun _ _ => True) hCF (hCX false) hF0 trivial (by kernel_rfl) (by rw [hz]; kernel_rfl) (by kernel_rfl) (by kernel_rfl) (by kernel_rfl) (by kernel_rfl) ?_ fun L a11 w11 hL st => ?_
        · refine ⟨⟨⟨⟨⟨⟨⟨⟨⟨⟨⟨⟨⟨⟨⟨⟨⟨⟨⟨⟨⟨⟨⟨⟨⟨⟨⟨trivial, ?_⟩, ?_⟩, ?_⟩, ?_⟩, ?_⟩, ?_⟩, ?_⟩, ?_⟩, ?_⟩, ?_⟩, ?_⟩, ?_⟩, ?_⟩, ?_⟩, ?_⟩, ?_⟩, ?_⟩, ?_⟩, ?_⟩, ?_⟩, ?_⟩, ?_⟩, ?_⟩, ?_⟩, ?_⟩, ?_⟩, ?_⟩
          · intro oo aa ww LL hho hho2 haft st; obtain rfl := Option.some.inj hho; exact payF_move st (by decide) (want_none rfl) rfl (st.outV (by kernel_rfl) e0) rfl
          · intro oo aa ww LL hho hho2 haft st; obtain rfl := Option.some.inj hho; exact payF st (by decide) (want_none rfl) (fun ww hF => by obtain ⟨x4, y, hB⟩ := hF; exact run_lenS rfl (st.argF (j := 0) (aft_of haft (by kernel_rfl)) rfl rfl)) rfl
          · intro oo aa ww LL hho hho2 haft st; obtain rfl := Option.some.inj hho; exact payF_move st (by decide) (want_none rfl) rfl (st.outV (by kernel_rfl) e1) rfl
          · intro oo aa ww LL hho hho2 haft st; obtain rfl := Option.some.inj hho; exact payF st (by decide) (want_none rfl) (fun ww hF => by obtain ⟨x4, y, hB⟩ := hF; exact run_subI rfl (st.argF (j := 1) (aft_of haft (by kernel_rfl)) rfl rfl) (st.argF (j := 2) (aft_of haft (by kernel_rfl)) rfl rfl) (by omega) (by omega)) rfl
          · intro oo aa ww LL hho hho2 haft st; obtain rfl := Option.some.inj hho; exact payF_move st (by decide) (want_none rfl) rfl (st.outV (by kernel_rfl) e9) rfl
          · intro oo aa ww LL hho hho2 haft st; obtain rfl := Option.some.inj hho; exact payF_move st (by decide) (want_none rfl) rfl (st.outV (by kernel_rfl) e10) rfl
          · intro oo aa ww LL hho hho2 haft st; obtain rfl := Option.some.inj hho; exact payF st (by decide) (want_none rfl) (fun ww hF => by obtain ⟨x4, y, hB⟩ := hF; exact run_ixStr (k := i) rfl (st.argF (j := 4) (aft_of haft (by kernel_rfl)) rfl rfl) (st.argF (j := 5) (aft_of haft (by kernel_rfl)) rfl rfl) hlti) rfl
          · intro oo aa ww LL hho hho2 haft st; obtain rfl := Option.some.inj hho; exact payF st (by decide) (want_none rfl) (fun ww hF => by obtain ⟨x4, y, hB⟩ := hF; exact run_ldStr rfl (st.argF (j := 6) (aft_of haft (by kernel_rfl)) rfl rfl) (y.addc (k := i) (v := Str q) (by rw [List.getElem?_map, hq]; rfl))) rfl
          · intro oo aa ww LL hho hho2 haft st; obtain rfl := Option.some.inj hho; exact payF st (by decide) (want_none rfl) (fun ww hF => by obtain ⟨x4, y, hB⟩ := hF; exact run_lenS rfl (st.argF (j := 7) (aft_of haft (by kernel_rfl)) rfl rfl)) rfl
          · intro oo aa ww LL hho hho2 haft st; obtain rfl := Option.some.inj hho; exact payF st (by decide) (want_none rfl) (fun ww hF => by obtain ⟨x4, y, hB⟩ := hF; exact (run_geI rfl (st.argF (j := 3) (aft_of haft (by kernel_rfl)) rfl rfl) (st.argF (j := 8) (aft_of haft (by kernel_rfl)) rfl rfl)).trans (okB (c := true) (decide_eq_true (by omega)))) rfl
          · intro oo aa ww LL hho hho2 haft st; obtain rfl := Option.some.inj hho; exact payF_move st (by decide) (want_none rfl) rfl (st.argF (j := 9) (aft_of haft (by kernel_rfl)) rfl rfl) rfl
          · intro oo aa ww LL hho hho2 haft st; obtain rfl := Option.some.inj hho; exact payF_move st (by decide) (st.wantF haft rfl (by kernel_rfl) rfl) rfl (st.outV (by kernel_rfl) e0) rfl
          · intro oo aa ww LL hho hho2 haft st; obtain rfl := Option.some.inj hho; exact payF_move st (by decide) (st.wantF haft rfl (by kernel_rfl) rfl) rfl (st.outV (by kernel_rfl) e1) rfl
          · intro oo aa ww LL hho hho2 haft st; obtain rfl := Option.some.inj hho; exact payF_move st (by decide) (st.wantF haft rfl (by kernel_rfl) rfl) rfl (st.outV (by kernel_rfl) e1) rfl
          · intro oo aa ww LL hho hho2 haft st; obtain rfl := Option.some.inj hho; exact payF_move st (by decide) (st.wantF haft rfl (by kernel_rfl) rfl) rfl (st.outV (by kernel_rfl) e9) rfl
          · intro oo aa ww LL hho hho2 haft st; obtain rfl := Option.some.inj hho; exact payF_move st (by decide) (st.wantF haft rfl (by kernel_rfl) rfl) rfl (st.outV (by kernel_rfl) e10) rfl
          · intro oo aa ww LL hho hho2 haft st; obtain rfl := Option.some.inj hho; exact payF st (by decide) (st.wantF haft rfl (by kernel_rfl) rfl) (fun ww hF => by obtain ⟨x4, y, hB⟩ := hF; exact run_ixStr (k := i) rfl (st.argF (j := 14) (aft_of haft (by kernel_rfl)) rfl rfl) (st.argF (j := 15) (aft_of haft (by kernel_rfl)) rfl rfl) hlti) rfl
          · intro oo aa ww LL hho hho2 haft st; obtain rfl := Option.some.inj hho; exact payF st (by decide) (st.wantF haft rfl (by kernel_rfl) rfl) (fun ww hF => by obtain ⟨x4, y, hB⟩ := hF; exact run_ldStr rfl (st.argF (j := 16) (aft_of haft (by kernel_rfl)) rfl rfl) (y.addc (k := i) (v := Str q) (by rw [List.getElem?_map, hq]; rfl))) rfl
          · intro oo aa ww LL hho hho2 haft st; obtain rfl := Option.some.inj hho; exact payF st (by decide) (st.wantF haft rfl (by kernel_rfl) rfl) (fun ww hF => by obtain ⟨x4, y, hB⟩ := hF; exact run_lenS rfl (st.argF (j := 17) (aft_of haft (by kernel_rfl)) rfl rfl)) rfl
          · intro oo aa ww LL hho hho2 haft st; obtain rfl := Option.some.inj hho; exact payF st (by decide) (st.wantF haft rfl (by kernel_rfl) rfl) (fun ww hF => by obtain ⟨x4, y, hB⟩ := hF; exact run_addI rfl (st.argF (j := 13) (aft_of haft (by kernel_rfl)) rfl rfl) (st.argF (j := 18) (aft_of haft (by kernel_rfl)) rfl rfl) (by omega)) rfl
          · intro oo aa ww LL hho hho2 haft st; obtain rfl := Option.some.inj hho; exact payF st (by decide) (st.wantF haft rfl (by kernel_rfl) rfl) (fun ww hF => by obtain ⟨x4, y, hB⟩ := hF; exact run_slcS rfl (st.argF (j := 11) (aft_of haft (by kernel_rfl)) rfl rfl) (st.argF (j := 12) (aft_of haft (by kernel_rfl)) rfl rfl) (st.argF (j := 19) (aft_of haft (by kernel_rfl)) rfl rfl) (by omega) (by omega)) rfl
          · intro oo aa ww LL hho hho2 haft st; obtain rfl := Option.some.inj hho; exact payF_move st (by decide) (st.wantF haft rfl (by kernel_rfl) rfl) rfl (st.outV (by kernel_rfl) e9) rfl
          · intro oo aa ww LL hho hho2 haft st; obtain rfl := Option.some.inj hho; exact payF_move st (by decide) (st.wantF haft rfl (by kernel_rfl) rfl) rfl (st.outV (by kernel_rfl) e10) rfl
          · intro oo aa ww LL hho hho2 haft st; obtain rfl := Option.some.inj hho; exact payF st (by decide) (st.wantF haft rfl (by kernel_rfl) rfl) (fun ww hF => by obtain ⟨x4, y, hB⟩ := hF; exact run_ixStr (k := i) rfl (st.argF (j := 21) (aft_of haft (by kernel_rfl)) rfl rfl) (st.argF (j := 22) (aft_of haft (by kernel_rfl)) rfl rfl) hlti) rfl
          · intro oo aa ww LL hho hho2 haft st; obtain rfl := Option.some.inj hho; exact payF st (by decide) (st.wantF haft rfl (by kernel_rfl) rfl) (fun ww hF => by obtain ⟨x4, y, hB⟩ := hF; exact run_ldStr rfl (st.argF (j := 23) (aft_of haft (by kernel_rfl)) rfl rfl) (y.addc (k := i) (v := Str q) (by rw [List.getElem?_map, hq]; rfl))) rfl
          · intro oo aa ww LL hho hho2 haft st; obtain rfl := Option.some.inj hho; exact payF st (by decide) (st.wantF haft rfl (by kernel_rfl) rfl) (fun ww hF => by obtain ⟨x4, y, hB⟩ := hF; exact (run_eqS rfl (st.argF (j := 20) (aft_of haft (by kernel_rfl)) rfl rfl) (st.argF (j := 24) (aft_of haft (by kernel_rfl)) rfl rfl)).trans (okB (c := true) (decide_eq_true heq))) rfl
          · intro oo aa ww LL hho hho2 haft st; obtain rfl := Option.some.inj hho; exact payF_pick st (by decide) (want_none rfl) rfl (st.argF (j := 10) (aft_of haft (by kernel_rfl)) rfl rfl) (st.argF (j := 25) (aft_of haft (by kernel_rfl)) rfl rfl) rfl
        have k11 : KeepM 11 [] a10 a11 := st.keepM (by kernel_rfl)
        have hgf := st.g
        unfold GF at hgf
        have e136 : a11.eval (.tmp 136) = (.bool true) := st.argF (j := 26) (hL 26 (by omega)) rfl rfl
        clear hF0 hCF hCX hS x4 y hB
        replace hgf := hgf.1
        obtain ⟨x4, y, hB⟩ := hgf
        clear st hL L
        replace e0 := k11.ev e0 (by decide)
        replace e1 := k11.ev e1 (by decide)
        replace e4 := k11.ev e4 (by decide)
        replace e5 := k11.ev e5 (by decide)
        replace e6 := k11.ev e6 (by decide)
        replace e9 := k11.ev e9 (by decide)
        replace e10 := k11.ev e10 (by decide)
        replace hz := k11.size.trans hz
        replace hd := k11.defers.trans hd
        replace kk4 := kk4.trans (k11.mono (ys := [10]) (by decide))
        have hS := hB.size
        refine wp_cond_true e136 ?_
        refine wp_seq ?_
        refine seq_startL (l := [0, 1, 2, 3, 4, 5, 6, 7]) (by kernel_rfl) ?_
        refine seq_move 137 (v := (.slice (some ⟨g, 0, none⟩) 20 20)) rfl rfl rfl rfl e9 ?_
        refine seq_move 138 (v := (.int .i64 ((i : Nat) : Int))) rfl rfl rfl rfl ((ev_ne (by decide)).trans e10) ?_
        refine seq_valD 139 (v := (.pointer (some ((⟨g, 0, none⟩ : Addr).add i)))) rfl rfl rfl (run_ixStr (k := i) rfl ((ev_ne (by decide)).trans (ev_same (by first | (rw [hz]; decide) | (simp only [size_put, hz]; decide)))) (ev_same (by first | (rw [hz]; decide) | (simp only [size_put, hz]; decide))) hlti) ?_
        refine seq_valD 140 (v := (Str q)) rfl rfl rfl (run_ldStr rfl (ev_same (by first | (rw [hz]; decide) | (simp only [size_put, hz]; decide))) (y.addc (k := i) (v := Str q) (by rw [List.getElem?_map, hq]; rfl))) ?_
        refine seq_move 141 (v := (.int .i64 ((p : Nat) : Int))) rfl rfl rfl rfl ((ev_ne (by decide)).trans ((ev_ne (by decide)).trans ((ev_ne (by decide)).trans ((ev_ne (by decide)).trans e1)))) ?_
        refine seq_valD 142 (v := (.agg (tokC 4 q 0 ((p : Nat) : Int)).toArray)) rfl rfl rfl (run_tok013 rfl rfl ((ev_ne (by decide)).trans (ev_same (by first | (rw [hz]; decide) | (simp only [size_put, hz]; decide)))) (ev_same (by first | (rw [hz]; decide) | (simp only [size_put, hz]; decide)))) ?_
        refine seq_skipD rfl rfl rfl (run_stTok rfl ((ev_ne (by decide)).trans ((ev_ne (by decide)).trans ((ev_ne (by decide)).trans ((ev_ne (by decide)).trans ((ev_ne (by decide)).trans ((ev_ne (by decide)).trans e4)))))) (ev_same (by first | (rw [hz]; decide) | (simp only [size_put, hz]; decide))) x4 rfl) ?_
        have y4 : RowT (setCells w11 b4 0 (tokC 4 q 0 ((p : Nat) : Int))) b4 35 (tokC 4 q 0 ((p : Nat) : Int)) := (x4.setTok rfl 4 q 0 ((p : Nat) : Int))
        replace y := y.setCells (y.ne_ty x4 (by decide)) (tokC 4 q 0 ((p : Nat) : Int)) 0
        replace hB := below_setCells hB hge4 (tokC 4 q 0 ((p : Nat) : Int)) 0
        have x4 := y4
        clear y4
        generalize (setCells w11 b4 0 (tokC 4 q 0 ((p : Nat) : Int))) = w12 at x4 y hB ⊢
        replace hS := hB.size
        refine seq_assign 5 (v := (.bool true)) rfl rfl rfl rfl rfl ?_
        refine seq_nil ?_
        refine seq_out ((((((((KeepM.refl 11 [5] a11).put (by decide)).put (by decide)).put (by decide)).put (by decide)).put (by decide)).put (by decide)).put (by decide)) fun a13 k13 tr => ?_
        have f5 := tr 5 (.bool true) (ev_same (by first | (rw [hz]; decide) | (simp only [size_put, hz]; decide)))
        clear tr
        replace e0 := k13.ev e0 (by decide)
        replace e1 := k13.ev e1 (by decide)
        replace e4 := k13.ev e4 (by decide)
        replace e6 := k13.ev e6 (by decide)
        replace e9 := k13.ev e9 (by decide)
        replace e10 := k13.ev e10 (by decide)
        replace hz := k13.size.trans hz
        replace hd := k13.defers.trans hd
        have e5 := f5
        clear f5
        refine wp_ret ?_
        exact post_tokB rfl hd e4 x4 e5 (by intro h; cases h) ⟨by rw [sign_yes hq hv hall]; rfl, hB⟩
      · have hv : q.isPrefixOf (l.drop p) = false := pre_no heq
        have hCF : Calm (fun wq => RowT wq b4 35 (tokC 0 [] 0 0) ∧ RowT wq g 9 (signL.map Str) ∧ Below w0.heap.size w0 wq) := fun _ _ hb hF => by obtain ⟨x4, y, hB⟩ := hF; exact ⟨x4.below hb x4.lt, y.below hb y.lt, Below.next hB hb⟩
        have hCX : ∀ bb : Bool, Calm ((fun (_ : Bool) (_ : World) => True) bb) := fun _ _ _ _ _ => trivial
        have hF0 : (fun wq => RowT wq b4 35 (tokC 0 [] 0 0) ∧ RowT wq g 9 (signL.map Str) ∧ Below w0.heap.size w0 wq) w9 := ⟨x4, y, hB⟩
        refine region_f (n := 27) [some (Str l), some (.int .i64 ((l.length : Nat) : Int)), some (.int .i64 ((p : Nat) : Int)), some (.int .i64 (((l.length - p) : Nat) : Int)), some (.slice (some ⟨g, 0, none⟩) 20 20), some (.int .i64 ((i : Nat) : Int)), some (.pointer (some ((⟨g, 0, none⟩ : Addr).add i))), some (Str q), some (.int .i64 ((q.length : Nat) : Int)), some (.bool true), some (.bool true), some (Str l), some (.int .i64 ((p : Nat) : Int)), some (.int .i64 ((p : Nat) : Int)), some (.slice (some ⟨g, 0, none⟩) 20 20), some (.int .i64 ((i : Nat) : Int)), some (.pointer (some ((⟨g, 0, none⟩ : Addr).add i))), some (Str q), some (.int .i64 ((q.length : Nat) : Int)), some (.int .i64 (((p + q.length) : Nat) : Int)), some (Str ((l.drop p).take ((p + q.length) - p))), some (.slice (some ⟨g, 0, none⟩) 20 20), some (.int .i64 ((i : Nat) : Int)), some (.pointer (some ((⟨g, 0, none⟩ : Addr).add i))), some (Str q), some (.bool false), some (.bool false)] 27 (fun wq => RowT wq b4 35 (tokC 0 [] 0 0) ∧ RowT wq g 9 (signL.map Str) ∧ Below w0.heap.size w0 wq) (fun _ _ => True) hCF (hCX false) hF0 trivial (by kernel_rfl) (by rw [hz]; kernel_rfl) (by kernel_rfl) (by kernel_rfl) (by kernel_rfl) (by kernel_rfl) ?_ fun L a14 w14 hL st => ?_
        · refine ⟨⟨⟨⟨⟨⟨⟨⟨⟨⟨⟨⟨⟨⟨⟨⟨⟨⟨⟨⟨⟨⟨⟨⟨⟨⟨⟨trivial, ?_⟩, ?_⟩, ?_⟩, ?_⟩, ?_⟩, ?_⟩, ?_⟩, ?_⟩, ?_⟩, ?_⟩, ?_⟩, ?_⟩, ?_⟩, ?_⟩, ?_⟩, ?_⟩, ?_⟩, ?_⟩, ?_⟩, ?_⟩, ?_⟩, ?_⟩, ?_⟩, ?_⟩, ?_⟩, ?_⟩, ?_⟩
          · intro oo aa ww LL hho hho2 haft st; obtain rfl := Option.some.inj hho; exact payF_move st (by decide) (want_none rfl) rfl (st.outV (by kernel_rfl) e0) rfl
          · intro oo aa ww LL hho hho2 haft st; obtain rfl := Option.some.inj hho; exact payF st (by decide) (want_none rfl) (fun ww hF => by obtain ⟨x4, y, hB⟩ := hF; exact run_lenS rfl (st.argF (j := 0) (aft_of haft (by kernel_rfl)) rfl rfl)) rfl
          · intro oo aa ww LL hho hho2 haft st; obtain rfl := Option.some.inj hho; exact payF_move st (by decide) (want_none rfl) rfl (st.outV (by kernel_rfl) e1) rfl
          · intro oo aa ww LL hho hho2 haft st; obtain rfl := Option.some.inj hho; exact payF st (by decide) (want_none rfl) (fun ww hF => by obtain ⟨x4, y, hB⟩ := hF; exact run_subI rfl (st.argF (j := 1) (aft_of haft (by kernel_rfl)) rfl rfl) (st.argF (j := 2) (aft_of haft (by kernel_rfl)) rfl rfl) (by omega) (by omega)) rfl
          · intro oo aa ww LL hho hho2 haft st; obtain rfl := Option.some.inj hho; exact payF_move st (by decide) (want_none rfl) rfl (st.outV (by kernel_rfl) e9) rfl
          · intro oo aa ww LL hho hho2 haft st; obtain rfl := Option.some.inj hho; exact payF_move st (by decide) (want_none rfl) rfl (st.outV (by kernel_rfl) e10) rfl
          · intro oo aa ww LL hho hho2 haft st; obtain rfl := Option.some.inj hho; exact payF st (by decide) (want_none rfl) (fun ww hF => by obtain ⟨x4, y, hB⟩ := hF; exact run_ixStr (k := i) rfl (st.argF (j := 4) (aft_of haft (by kernel_rfl)) rfl rfl) (st.argF (j := 5) (aft_of haft (by kernel_rfl)) rfl rfl) hlti) rfl
          · intro oo aa ww LL hho hho2 haft st; obtain rfl := Option.some.inj hho; exact payF st (by decide) (want_none rfl) (fun ww hF => by obtain ⟨x4, y, hB⟩ := hF; exact run_ldStr rfl (st.argF (j := 6) (aft_of haft (by kernel_rfl)) rfl rfl) (y.addc (k := i) (v := Str q) (by rw [List.getElem?_map, hq]; rfl))) rfl
          · intro oo aa ww LL hho hho2 haft st; obtain rfl := Option.some.inj hho; exact payF st (by decide) (want_none rfl) (fun ww hF => by obtain ⟨x4, y, hB⟩ := hF; exact run_lenS rfl (st.argF (j := 7) (aft_of haft (by kernel_rfl)) rfl rfl)) rfl
          · intro oo aa ww LL hho hho2 haft st; obtain rfl := Option.some.inj hho; exact payF st (by decide) (want_none rfl) (fun ww hF => by obtain ⟨x4, y, hB⟩ := hF; exact (run_geI rfl (st.argF (j := 3) (aft_of haft (by kernel_rfl)) rfl rfl) (st.argF (j := 8) (aft_of haft (by kernel_rfl)) rfl rfl)).trans (okB (c := true) (decide_eq_true (by omega)))) rfl
          · intro oo aa ww LL hho hho2 haft st; obtain rfl := Option.some.inj hho; exact payF_move st (by decide) (want_none rfl) rfl (st.argF (j := 9) (aft_of haft (by kernel_rfl)) rfl rfl) rfl
          · intro oo aa ww LL hho hho2 haft st; obtain rfl := Option.some.inj hho; exact payF_move st (by decide) (st.wantF haft rfl (by kernel_rfl) rfl) rfl (st.outV (by kernel_rfl) e0) rfl
          · intro oo aa ww LL hho hho2 haft st; obtain rfl := Option.some.inj hho; exact payF_move st (by decide) (st.wantF haft rfl (by kernel_rfl) rfl) rfl (st.outV (by kernel_rfl) e1) rfl
          · intro oo aa ww LL hho hho2 haft st; obtain rfl := Option.some.inj hho; exact payF_move st (by decide) (st.wantF haft rfl (by kernel_rfl) rfl) rfl (st.outV (by kernel_rfl) e1) rfl
          · intro oo aa ww LL hho hho2 haft st; obtain rfl := Option.some.inj hho; exact payF_move st (by decide) (st.wantF haft rfl (by kernel_rfl) rfl) rfl (st.outV (by kernel_rfl) e9) rfl
          · intro oo aa ww LL hho hho2 haft st; obtain rfl := Option.some.inj hho; exact payF_move st (by decide) (st.wantF haft rfl (by kernel_rfl) rfl) rfl (st.outV (by kernel_rfl) e10) rfl
          · intro oo aa ww LL hho hho2 haft st; obtain rfl := Option.some.inj hho; exact payF st (by decide) (st.wantF haft rfl (by kernel_rfl) rfl) (fun ww hF => by obtain ⟨x4, y, hB⟩ := hF; exact run_ixStr (k := i) rfl (st.argF (j := 14) (aft_of haft (by kernel_rfl)) rfl rfl) (st.argF (j := 15) (aft_of haft (by kernel_rfl)) rfl rfl) hlti) rfl
          · intro oo aa ww LL hho hho2 haft st; obtain rfl := Option.some.inj hho; exact payF st (by decide) (st.wantF haft rfl (by kernel_rfl) rfl) (fun ww hF => by obtain ⟨x4, y, hB⟩ := hF; exact run_ldStr rfl (st.argF (j := 16) (aft_of haft (by kernel_rfl)) rfl rfl) (y.addc (k := i) (v := Str q) (by rw [List.getElem?_map, hq]; rfl))) rfl
          · intro oo aa ww LL hho hho2 haft st; obtain rfl := Option.some.inj hho; exact payF st (by decide) (st.wantF haft rfl (by kernel_rfl) rfl) (fun ww hF => by obtain ⟨x4, y, hB⟩ := hF; exact run_lenS rfl (st.argF (j := 17) (aft_of haft (by kernel_rfl)) rfl rfl)) rfl
          · intro oo aa ww LL hho hho2 haft st; obtain rfl := Option.some.inj hho; exact payF st (by decide) (st.wantF haft rfl (by kernel_rfl) rfl) (fun ww hF => by obtain ⟨x4, y, hB⟩ := hF; exact run_addI rfl (st.argF (j := 13) (aft_of haft (by kernel_rfl)) rfl rfl) (st.argF (j := 18) (aft_of haft (by kernel_rfl)) rfl rfl) (by omega)) rfl
          · intro oo aa ww LL hho hho2 haft st; obtain rfl := Option.some.inj hho; exact payF st (by decide) (st.wantF haft rfl (by kernel_rfl) rfl) (fun ww hF => by obtain ⟨x4, y, hB⟩ := hF; exact run_slcS rfl (st.argF (j := 11) (aft_of haft (by kernel_rfl)) rfl rfl) (st.argF (j := 12) (aft_of haft (by kernel_rfl)) rfl rfl) (st.argF (j := 19) (aft_of haft (by kernel_rfl)) rfl rfl) (by omega) (by omega)) rfl
          · intro oo aa ww LL hho hho2 haft st; obtain rfl := Option.some.inj hho; exact payF_move st (by decide) (st.wantF haft rfl (by kernel_rfl) rfl) rfl (st.outV (by kernel_rfl) e9) rfl
          · intro oo aa ww LL hho hho2 haft st; obtain rfl := Option.some.inj hho; exact payF_move st (by decide) (st.wantF haft rfl (by kernel_rfl) rfl) rfl (st.outV (by kernel_rfl) e10) rfl
          · intro oo aa ww LL hho hho2 haft st; obtain rfl := Option.some.inj hho; exact payF st (by decide) (st.wantF haft rfl (by kernel_rfl) rfl) (fun ww hF => by obtain ⟨x4, y, hB⟩ := hF; exact run_ixStr (k := i) rfl (st.argF (j := 21) (aft_of haft (by kernel_rfl)) rfl rfl) (st.argF (j := 22) (aft_of haft (by kernel_rfl)) rfl rfl) hlti) rfl
          · intro oo aa ww LL hho hho2 haft st; obtain rfl := Option.some.inj hho; exact payF st (by decide) (st.wantF haft rfl (by kernel_rfl) rfl) (fun ww hF => by obtain ⟨x4, y, hB⟩ := hF; exact run_ldStr rfl (st.argF (j := 23) (aft_of haft (by kernel_rfl)) rfl rfl) (y.addc (k := i) (v := Str q) (by rw [List.getElem?_map, hq]; rfl))) rfl
          · intro oo aa ww LL hho hho2 haft st; obtain rfl := Option.some.inj hho; exact payF st (by decide) (st.wantF haft rfl (by kernel_rfl) rfl) (fun ww hF => by obtain ⟨x4, y, hB⟩ := hF; exact (run_eqS rfl (st.argF (j := 20) (aft_of haft (by kernel_rfl)) rfl rfl) (st.argF (j := 24) (aft_of haft (by kernel_rfl)) rfl rfl)).trans (okB (c := false) (decide_eq_false heq))) rfl
          · intro oo aa ww LL hho hho2 haft st; obtain rfl := Option.some.inj hho; exact payF_pick st (by decide) (want_none rfl) rfl (st.argF (j := 10) (aft_of haft (by kernel_rfl)) rfl rfl) (st.argF (j := 25) (aft_of haft (by kernel_rfl)) rfl rfl) rfl
        have k14 : KeepM 11 [] a10 a14 := st.keepM (by kernel_rfl)
        have hgf := st.g
        unfold GF at hgf
        have e136 : a14.eval (.tmp 136) = (.bool false) := st.argF (j := 26) (hL 26 (by omega)) rfl rfl
        clear hF0 hCF hCX hS x4 y hB
        replace hgf := hgf.1
        obtain ⟨x4, y, hB⟩ := hgf
        clear st hL L
        replace e0 := k14.ev e0 (by decide)
        replace e1 := k14.ev e1 (by decide)
        replace e4 := k14.ev e4 (by decide)
        replace e5 := k14.ev e5 (by decide)
        replace e6 := k14.ev e6 (by decide)
        replace e9 := k14.ev e9 (by decide)
        replace e10 := k14.ev e10 (by decide)
        replace hz := k14.size.trans hz
        replace hd := k14.defers.trans hd
        replace kk4 := kk4.trans (k14.mono (ys := [10]) (by decide))
        have hS := hB.size
        refine wp_cond_false e136 ?_
        refine wp_skip ?_
        refine seq_startL (l := [0, 1, 2]) (by kernel_rfl) ?_
        refine seq_move 108 (v := (.int .i64 ((i : Nat) : Int))) rfl rfl rfl rfl e10 ?_
        refine seq_valD 109 (v := (.int .i64 ((i + 1 : Nat) : Int))) rfl rfl rfl (run_incI rfl (ev_same (by first | (rw [hz]; decide) | (simp only [size_put, hz]; decide))) rfl (by omega)) ?_
        refine seq_assign 10 (v := (.int .i64 ((i + 1 : Nat) : Int))) rfl rfl rfl rfl (ev_same (by first | (rw [hz]; decide) | (simp only [size_put, hz]; decide))) ?_
        refine seq_nil ?_
        refine seq_out ((((KeepM.refl 11 [10] a14).put (by decide)).put (by decide)).put (by decide)) fun a15 k15 tr => ?_
        have f10 := tr 10 (.int .i64 ((i + 1 : Nat) : Int)) (ev_same (by first | (rw [hz]; decide) | (simp only [size_put, hz]; decide)))
        clear tr
        replace e0 := k15.ev e0 (by decide)
        replace e1 := k15.ev e1 (by decide)
        replace e4 := k15.ev e4 (by decide)
        replace e5 := k15.ev e5 (by decide)
        replace e6 := k15.ev e6 (by decide)
        replace e9 := k15.ev e9 (by decide)
        replace hz := k15.size.trans hz
        replace hd := k15.defers.trans hd
        replace kk4 := kk4.trans (k15.mono (ys := [10]) (by decide))
        have e10 := f10
        clear f10
        refine ⟨⟨i + 1, ⟨by omega, fun j r hj hr => ?_⟩, kk4, e10, x4, y, hB⟩, ?_⟩
        · by_cases ej : j = i
          · subst ej; rw [hq] at hr; rw [← Option.some.inj hr]; exact hv
          · exact hall j r (by omega) hr
        · rw [e10, e10s]; simp [intOf]; omega
    · have hv : q.isPrefixOf (l.drop p) = false := pre_short (by simp; omega)
      have hCF : Calm (fun wq => RowT wq b4 35 (tokC 0 [] 0 0) ∧ RowT wq g 9 (signL.map Str) ∧ Below w0.heap.size w0 wq) := fun _ _ hb hF => by obtain ⟨x4, y, hB⟩ := hF; exact ⟨x4.below hb x4.lt, y.below hb y.lt, Below.next hB hb⟩
      have hCX : ∀ bb : Bool, Calm ((fun (_ : Bool) (_ : World) => True) bb) := fun _ _ _ _ _ => trivial
      have hF0 : (fun wq => RowT wq b4 35 (tokC 0 [] 0 0) ∧ RowT wq g 9 (signL.map Str) ∧ Below w0.heap.size w0 wq) w9 := ⟨x4, y, hB⟩
      refine region_f (n := 27) [some (Str l), some (.int .i64 ((l.length : Nat) : Int)), some (.int .i64 ((p : Nat) : Int)), some (.int .i64 (((l.length - p) : Nat) : Int)), some (.slice (some ⟨g, 0, none⟩) 20 20), some (.int .i64 ((i : Nat) : Int)), some (.pointer (some ((⟨g, 0, none⟩ : Addr).add i))), some (Str q), some (.int .i64 ((q.length : Nat) : Int)), some (.bool false), some (.bool false), some undef, some undef, some undef, some undef, some undef, some undef, some undef, some undef, some undef, some undef, some undef, some undef, some undef, some undef, some undef, some (.bool false)] 27 (fun wq => RowT wq b4 35 (tokC 0 [] 0 0) ∧ RowT wq g 9 (signL.map Str) ∧ Below w0.heap.size w0 wq) (fun _ _ => True) hCF (hCX false) hF0 trivial (by kernel_rfl) (by rw [hz]; kernel_rfl) (by kernel_rfl) (by kernel_rfl) (by kernel_rfl) (by kernel_rfl) ?_ fun L a16 w16 hL st => ?_
      · refine ⟨⟨⟨⟨⟨⟨⟨⟨⟨⟨⟨⟨⟨⟨⟨⟨⟨⟨⟨⟨⟨⟨⟨⟨⟨⟨⟨trivial, ?_⟩, ?_⟩, ?_⟩, ?_⟩, ?_⟩, ?_⟩, ?_⟩, ?_⟩, ?_⟩, ?_⟩, ?_⟩, ?_⟩, ?_⟩, ?_⟩, ?_⟩, ?_⟩, ?_⟩, ?_⟩, ?_⟩, ?_⟩, ?_⟩, ?_⟩, ?_⟩, ?_⟩, ?_⟩, ?_⟩, ?_⟩
        · intro oo aa ww LL hho hho2 haft st; obtain rfl := Option.some.inj hho; exact payF_move st (by decide) (want_none rfl) rfl (st.outV (by kernel_rfl) e0) rfl
        · intro oo aa ww LL hho hho2 haft st; obtain rfl := Option.some.inj hho; exact payF st (by decide) (want_none rfl) (fun ww hF => by obtain ⟨x4, y, hB⟩ := hF; exact run_lenS rfl (st.argF (j := 0) (aft_of haft (by kernel_rfl)) rfl rfl)) rfl
        · intro oo aa ww LL hho hho2 haft st; obtain rfl := Option.some.inj hho; exact payF_move st (by decide) (want_none rfl) rfl (st.outV (by kernel_rfl) e1) rfl
        · intro oo aa ww LL hho hho2 haft st; obtain rfl := Option.some.inj hho; exact payF st (by decide) (want_none rfl) (fun ww hF => by obtain ⟨x4, y, hB⟩ := hF; exact run_subI rfl (st.argF (j := 1) (aft_of haft (by kernel_rfl)) rfl rfl) (st.argF (j := 2) (aft_of haft (by kernel_rfl)) rfl rfl) (by omega) (by omega)) rfl
        · intro oo aa ww LL hho hho2 haft st; obtain rfl := Option.some.inj hho; exact payF_move st (by decide) (want_none rfl) rfl (st.outV (by kernel_rfl) e9) rfl
        · intro oo aa ww LL hho hho2 haft st; obtain rfl := Option.some.inj hho; exact payF_move st (by decide) (want_none rfl) rfl (st.outV (by kernel_rfl) e10) rfl
        · intro oo aa ww LL hho hho2 haft st; obtain rfl := Option.some.inj hho; exact payF st (by decide) (want_none rfl) (fun ww hF => by obtain ⟨x4, y, hB⟩ := hF; exact run_ixStr (k := i) rfl (st.argF (j := 4) (aft_of haft (by kernel_rfl)) rfl rfl) (st.argF (j := 5) (aft_of haft (by kernel_rfl)) rfl rfl) hlti) rfl
        · intro oo aa ww LL hho hho2 haft st; obtain rfl := Option.some.inj hho; exact payF st (by decide) (want_none rfl) (fun ww hF => by obtain ⟨x4, y, hB⟩ := hF; exact run_ldStr rfl (st.argF (j := 6) (aft_of haft (by kernel_rfl)) rfl rfl) (y.addc (k := i) (v := Str q) (by rw [List.getElem?_map, hq]; rfl))) rfl
        · intro oo aa ww LL hho hho2 haft st; obtain rfl := Option.some.inj hho; exact payF st (by decide) (want_none rfl) (fun ww hF => by obtain ⟨x4, y, hB⟩ := hF; exact run_lenS rfl (st.argF (j := 7) (aft_of haft (by kernel_rfl)) rfl rfl)) rfl
        · intro oo aa ww LL hho hho2 haft st; obtain rfl := Option.some.inj hho; exact payF st (by decide) (want_none rfl) (fun ww hF => by obtain ⟨x4, y, hB⟩ := hF; exact (run_geI rfl (st.argF (j := 3) (aft_of haft (by kernel_rfl)) rfl rfl) (st.argF (j := 8) (aft_of haft (by kernel_rfl)) rfl rfl)).trans (okB (c := false) (decide_eq_false (by omega)))) rfl
        · intro oo aa ww LL hho hho2 haft st; obtain rfl := Option.some.inj hho; exact payF_move st (by decide) (want_none rfl) rfl (st.argF (j := 9) (aft_of haft (by kernel_rfl)) rfl rfl) rfl
        · intro oo aa ww LL hho hho2 haft st; obtain rfl := Option.some.inj hho; exact st.skipF (by decide) haft rfl (by kernel_rfl) rfl (.inl rfl) rfl
        · intro oo aa ww LL hho hho2 haft st; obtain rfl := Option.some.inj hho; exact st.skipF (by decide) haft rfl (by kernel_rfl) rfl (.inl rfl) rfl
        · intro oo aa ww LL hho hho2 haft st; obtain rfl := Option.some.inj hho; exact st.skipF (by decide) haft rfl (by kernel_rfl) rfl (.inl rfl) rfl
        · intro oo aa ww LL hho hho2 haft st; obtain rfl := Option.some.inj hho; exact st.skipF (by decide) haft rfl (by kernel_rfl) rfl (.inl rfl) rfl
        · intro oo aa ww LL hho hho2 haft st; obtain rfl := Option.some.inj hho; exact st.skipF (by decide) haft rfl (by kernel_rfl) rfl (.inl rfl) rfl
        · intro oo aa ww LL hho hho2 haft st; obtain rfl := Option.some.inj hho; exact st.skipF (by decide) haft rfl (by kernel_rfl) rfl (.inl rfl) rfl
        · intro oo aa ww LL hho hho2 haft st; obtain rfl := Option.some.inj hho; exact st.skipF (by decide) haft rfl (by kernel_rfl) rfl (.inl rfl) rfl
        · intro oo aa ww LL hho hho2 haft st; obtain rfl := Option.some.inj hho; exact st.skipF (by decide) haft rfl (by kernel_rfl) rfl (.inl rfl) rfl
        · intro oo aa ww LL hho hho2 haft st; obtain rfl := Option.some.inj hho; exact st.skipF (by decide) haft rfl (by kernel_rfl) rfl (.inl rfl) rfl
        · intro oo aa ww LL hho hho2 haft st; obtain rfl := Option.some.inj hho; exact st.skipF (by decide) haft rfl (by kernel_rfl) rfl (.inl rfl) rfl
        · intro oo aa ww LL hho hho2 haft st; obtain rfl := Option.some.inj hho; exact st.skipF (by decide) haft rfl (by kernel_rfl) rfl (.inl rfl) rfl
        · intro oo aa ww LL hho hho2 haft st; obtain rfl := Option.some.inj hho; exact st.skipF (by decide) haft rfl (by kernel_rfl) rfl (.inl rfl) rfl
        · intro oo aa ww LL hho hho2 haft st; obtain rfl := Option.some.inj hho; exact st.skipF (by decide) haft rfl (by kernel_rfl) rfl (.inl rfl) rfl
        · intro oo aa ww LL hho hho2 haft st; obtain rfl := Option.some.inj hho; exact st.skipF (by decide) haft rfl (by kernel_rfl) rfl (.inl rfl) rfl
        · intro oo aa ww LL hho hho2 haft st; obtain rfl := Option.some.inj hho; exact st.skipF (by decide) haft rfl (by kernel_rfl) rfl (.inl rfl) rfl
        · intro oo aa ww LL hho hho2 haft st; obtain rfl := Option.some.inj hho; exact payF_pick st (by decide) (want_none rfl) rfl (st.argF (j := 10) (aft_of haft (by kernel_rfl)) rfl rfl) rfl rfl
      have k16 : KeepM 11 [] a10 a16 := st.keepM (by kernel_rfl)
      have hgf := st.g
      unfold GF at hgf
      have e136 : a16.eval (.tmp 136) = (.bool false) := st.argF (j := 26) (hL 26 (by omega)) rfl rfl
      clear hF0 hCF hCX hS x4 y hB
      replace hgf := hgf.1
      obtain ⟨x4, y, hB⟩ := hgf
      clear st hL L
      replace e0 := k16.ev e0 (by decide)
      replace e1 := k16.ev e1 (by decide)
      replace e4 := k16.ev e4 (by decide)
      replace e5 := k16.ev e5 (by decide)
      replace e6 := k16.ev e6 (by decide)
      replace e9 := k16.ev e9 (by decide)
      replace e10 := k16.ev e10 (by decide)
      replace hz := k16.size.trans hz
      replace hd := k16.defers.trans hd
      replace kk4 := kk4.trans (k16.mono (ys := [10]) (by decide))
      have hS := hB.size
      refine wp_cond_false e136 ?_
      refine wp_skip ?_
      refine seq_startL (l := [0, 1, 2]) (by kernel_rfl) ?_
      refine seq_move 108 (v := (.int .i64 ((i : Nat) : Int))) rfl rfl rfl rfl e10 ?_
      refine seq_valD 109 (v := (.int .i64 ((i + 1 : Nat) : Int))) rfl rfl rfl (run_incI rfl (ev_same (by first | (rw [hz]; decide) | (simp only [size_put, hz]; decide))) rfl (by omega)) ?_
      refine seq_assign 10 (v := (.int .i64 ((i + 1 : Nat) : Int))) rfl rfl rfl rfl (ev_same (by first | (rw [hz]; decide) | (simp only [size_put, hz]; decide))) ?_
      refine seq_nil ?_
      refine seq_out ((((KeepM.refl 11 [10] a16).put (by decide)).put (by decide)).put (by decide)) fun a17 k17 tr => ?_
      have f10 := tr 10 (.int .i64 ((i + 1 : Nat) : Int)) (ev_same (by first | (rw [hz]; decide) | (simp only [size_put, hz]; decide)))
      clear tr
      replace e0 := k17.ev e0 (by decide)
      replace e1 := k17.ev e1 (by decide)
      replace e4 := k17.ev e4 (by decide)
      replace e5 := k17.ev e5 (by decide)
      replace e6 := k17.ev e6 (by decide)
      replace e9 := k17.ev e9 (by decide)
      replace hz := k17.size.trans hz
      replace hd := k17.defers.trans hd
      replace kk4 := kk4.trans (k17.mono (ys := [10]) (by decide))
      have e10 := f10
      clear f10
      refine ⟨⟨i + 1, ⟨by omega, fun j r hj hr => ?_⟩, kk4, e10, x4, y, hB⟩, ?_⟩
      · by_cases ej : j = i
        · subst ej; rw [hq] at hr; rw [← Option.some.inj hr]; exact hv
        · exact hall j r (by omega) hr
      · rw [e10, e10s]; simp [intOf]; omega
  · rw [decide_eq_false (by omega)] at e107
    refine wp_cond_false e107 ?_
    refine wp_exit ?_
    refine exit_here1 (id := 4) ?_
    refine wp_seq ?_
    refine seq_startL (l := [0, 1, 2]) (by kernel_rfl) ?_
    refine seq_valD 143 (v := (.agg (tokC 0 [] 0 0).toArray)) rfl rfl rfl (run_tok0 rfl ) ?_
    refine seq_skipD rfl rfl rfl (run_stTok rfl ((ev_ne (by decide)).trans e4) (ev_same (by first | (rw [hz]; decide) | (simp only [size_put, hz]; decide))) x4 rfl) ?_
    have y4 : RowT (setCells w9 b4 0 (tokC 0 [] 0 0)) b4 35 (tokC 0 [] 0 0) := (x4.setTok rfl 0 [] 0 0)
    replace y := y.setCells (y.ne_ty x4 (by decide)) (tokC 0 [] 0 0) 0
    replace hB := below_setCells hB hge4 (tokC 0 [] 0 0) 0
    have x4 := y4
    clear y4
    generalize (setCells w9 b4 0 (tokC 0 [] 0 0)) = w18 at x4 y hB ⊢
    replace hS := hB.size
    refine seq_assign 5 (v := (.bool false)) rfl rfl rfl rfl rfl ?_
    refine seq_nil ?_
    refine seq_out (((KeepM.refl 11 [5] a10).put (by decide)).put (by decide)) fun a19 k19 tr => ?_
    have f5 := tr 5 (.bool false) (ev_same (by first | (rw [hz]; decide) | (simp only [size_put, hz]; decide)))
    clear tr
    replace e0 := k19.ev e0 (by decide)
    replace e1 := k19.ev e1 (by decide)
    replace e4 := k19.ev e4 (by decide)
    replace e6 := k19.ev e6 (by decide)
    replace e9 := k19.ev e9 (by decide)
    replace e10 := k19.ev e10 (by decide)
    replace hz := k19.size.trans hz
    replace hd := k19.defers.trans hd
    have e5 := f5
    clear f5
    refine wp_ret ?_
    exact post_tokB rfl hd e4 x4 e5 (by intro h; cases h) ⟨by rw [sign_no (fun j q hj => hall j q (by have := (List.getElem?_eq_some_iff.1 hj).1; simp [signL] at this; omega) hj)]; rfl, hB⟩
theorem ref_one (l : List UInt8) (p : Nat) (w0 : World) (hp : p < l.length) (hlen : l.length ≤ 4611686018427387904) : Calls Tryd.prog 27 #[Str l, .int .i64 ((p : Nat) : Int)] w0 (Ret w0 (oneV (oneOf (l.drop p)) p)) := by
  have hc : l[p]? = some l[p] := List.getElem?_eq_getElem hp
  have e : l.drop p = l[p] :: l.drop (p + 1) := List.drop_eq_getElem_cons hp
  have h : oneOf (l.drop p) = if isLetter l[p] = true then some (((kindOf ((l.drop p).takeWhile wordB) : Nat) : Int), (l.drop p).takeWhile wordB, 0) else if isDigit l[p] = true then (numAt (l.drop p)).map fun n => (3, (l.drop p).takeWhile isDigit, n) else (signAt (l.drop p)).map fun q => (4, q, 0) := by
    unfold oneOf; split
    · rename_i h; rw [h] at e; cases e
    · rename_i d r h; rw [h] at e; obtain ⟨rfl, _⟩ := List.cons.inj e; rfl
  rw [h]
  cases h1 : isLetter l[p] with
  | true => exact ref_one_word l p w0 hc hp hlen h1
  | false =>
    rw [if_neg (by decide)]
    cases h2 : isDigit l[p] with
    | true => exact ref_one_num l p w0 hc hp hlen h1 h2
    | false => exact ref_one_sign l p w0 hc hp hlen h1 h2
theorem en_ref_one : Enters Tryd.prog 27 := enters_of Tryd.func27 (by kernel_rfl) rfl
end Go.Proofs.YtbcfggdifljacaaDoor
