/-
  What is known of a frame's slots (Knows), and of the memory that a call has made (Mem); single steps of a region over these.
-/
import Derived.Test.YtmfiiapmkidmkaaDoorBase
import Derived.Test.YtmfiiapmkidmkaaDoorGen
import Derived.Maps.OwnIn
namespace Go.Proofs.YtmfiiapmkidmkaaDoor
open Go Go.RowKit

/-- What a list of slots says of slot k. -/
def look (k : Nat) : List (Nat × Value) → Option Value
  | [] => none
  | p :: r => bif Nat.beq k p.1 then some p.2 else look k r
/-- A frame of n slots, of which these are known; nothing deferred. -/
structure Knows (a : Act) (n : Nat) (env : List (Nat × Value)) : Prop where
  size : a.tmps.size = n
  defers : a.defers = []
  val : ∀ k v, look k env = some v → a.eval (.tmp k) = v
def Subs (env : List (Nat × Value)) : List (Nat × Value) → Prop
  | [] => True
  | p :: r => look p.1 env = some p.2 ∧ Subs env r
section
variable {a : Act} {n : Nat} {env : List (Nat × Value)}
theorem Knows.get (h : Knows a n env) {k : Nat} {v : Value} (e : look k env = some v) : a.eval (.tmp k) = v := h.val k v e
theorem Knows.put (h : Knows a n env) {d : Nat} {v : Value} (hd : Nat.blt d n = true) : Knows (a.put (some d) v) n ((d, v) :: env) := by
  have hd' : d < n := Nat.le_of_ble_eq_true hd
  refine ⟨by rw [size_put]; exact h.size, by rw [defers_put]; exact h.defers, fun k u e => ?_⟩
  unfold look at e
  cases hk : Nat.beq k d with
  | true =>
    rw [hk] at e
    obtain rfl := Nat.eq_of_beq_eq_true hk
    rw [ev_same (by rw [h.size]; exact hd')]
    exact Option.some.inj e
  | false =>
    rw [hk] at e
    rw [ev_ne (Nat.ne_of_beq_eq_false hk)]
    exact h.val k u e
theorem Knows.put0 (h : Knows a n env) {v : Value} : Knows (a.put none v) n env := h
theorem subs_look {env env' : List (Nat × Value)} (hs : Subs env env') : ∀ k v, look k env' = some v → look k env = some v := by
  induction env' with
  | nil => intro k v e; cases e
  | cons p r ih =>
    intro k v e
    unfold look at e
    cases hk : Nat.beq k p.1 with
    | true => rw [hk] at e; obtain rfl := Nat.eq_of_beq_eq_true hk; rw [hs.1]; exact e
    | false => rw [hk] at e; exact ih hs.2 k v e
theorem Knows.sub (h : Knows a n env) {env' : List (Nat × Value)} (hs : Subs env env') : Knows a n env' := ⟨h.size, h.defers, fun k v e => h.val k v (subs_look hs k v e)⟩
theorem Knows.slot (h : Knows a n env) {k : Nat} {v : Value} (e : look k env = some v) (hu : v ≠ undef) : a.tmps[k]? = some v := get_of (h.get e) hu
end
/-- An operand, by what is known. -/
def evE (env : List (Nat × Value)) : Operand → Value
  | .tmp k => (look k env).getD undef
  | .const v => v
  | .global g => .pointer (some ⟨g, 0, none⟩)
  | .func f => .func (.func f) #[] #[]
def knownO (env : List (Nat × Value)) : Operand → Bool
  | .tmp k => (look k env).isSome
  | _ => true
theorem Knows.ev {a : Act} {n : Nat} {env : List (Nat × Value)} (h : Knows a n env) {x : Operand} (hx : knownO env x = true) : a.eval x = evE env x := by
  cases x with
  | tmp k =>
    replace hx : (look k env).isSome = true := hx
    obtain ⟨v, hv⟩ := Option.isSome_iff_exists.1 hx
    rw [h.val k v hv]
    show v = (look k env).getD undef
    rw [hv]; rfl
  | const v => rfl
  | global g => rfl
  | func f => rfl
theorem map_congr_of {α : Type} {xs : Array Operand} {ρ σ : Operand → α} (h : ∀ x ∈ xs, ρ x = σ x) : xs.map ρ = xs.map σ := by
  apply Array.map_congr_left; exact h
/-- The kinds of operations that are spoken of here. -/
def plainOp : Op → Bool
  | .move _ | .assign _ | .box .. | .load .. | .nilCheck _ | .unOp .. | .convert .. | .makeInterface .. | .fieldAddr .. | .field .. | .range .. | .next .. | .typeAssert .. | .extract .. | .panic _ => true
  | .store .. | .binOp .. | .makeSlice .. | .indexAddr .. | .index .. | .lookup .. | .pick .. | .insert .. | .mapUpdate .. => true
  | .alloc _ | .build .. | .buildSlice .. | .makeFunc .. | .makeMap .. | .slice .. | .call _ => true
  | _ => false
/-- An operation reads its operands alone. -/
theorem execOp_congr {ρ σ : Operand → Value} {o : Oper} (hp : plainOp o.op = true) (h : ∀ x ∈ o.op.operands, ρ x = σ x) : execOp ρ o = execOp σ o := by
  cases ho : o.op <;> rw [ho] at h hp <;> first | cases hp | skip
  case move x => simp only [execOp, ho]; rw [h x (by simp [Op.operands])]
  case assign x => simp only [execOp, ho]; rw [h x (by simp [Op.operands])]
  case box t x => simp only [execOp, ho]; rw [h x (by simp [Op.operands])]
  case load t x => simp only [execOp, ho]; rw [h x (by simp [Op.operands])]
  case nilCheck x => simp only [execOp, ho]; rw [h x (by simp [Op.operands])]
  case unOp u t x => simp only [execOp, ho]; rw [h x (by simp [Op.operands])]
  case convert s d x => simp only [execOp, ho]; rw [h x (by simp [Op.operands])]
  case makeInterface t x => simp only [execOp, ho]; rw [h x (by simp [Op.operands])]
  case fieldAddr t x f => simp only [execOp, ho]; rw [h x (by simp [Op.operands])]
  case field t x f => simp only [execOp, ho]; rw [h x (by simp [Op.operands])]
  case range t x => simp only [execOp, ho]; rw [h x (by simp [Op.operands])]
  case next x b => simp only [execOp, ho]; rw [h x (by simp [Op.operands])]
  case typeAssert x t u ok => simp only [execOp, ho]; rw [h x (by simp [Op.operands])]
  case extract x k => simp only [execOp, ho]; rw [h x (by simp [Op.operands])]
  case panic x => simp only [execOp, ho]; rw [h x (by simp [Op.operands])]
  case store t x y => simp only [execOp, ho]; rw [h x (by simp [Op.operands]), h y (by simp [Op.operands])]
  case binOp op t x y t2 => simp only [execOp, ho]; rw [h x (by simp [Op.operands]), h y (by simp [Op.operands])]
  case makeSlice t x y => simp only [execOp, ho]; rw [h x (by simp [Op.operands]), h y (by simp [Op.operands])]
  case indexAddr t x y => simp only [execOp, ho]; rw [h x (by simp [Op.operands]), h y (by simp [Op.operands])]
  case index t x y => simp only [execOp, ho]; rw [h x (by simp [Op.operands]), h y (by simp [Op.operands])]
  case lookup t x y ok => simp only [execOp, ho]; rw [h x (by simp [Op.operands]), h y (by simp [Op.operands])]
  case pick x y z => simp only [execOp, ho]; rw [h x (by simp [Op.operands]), h y (by simp [Op.operands]), h z (by simp [Op.operands])]
  case insert t x y z => simp only [execOp, ho]; rw [h x (by simp [Op.operands]), h y (by simp [Op.operands]), h z (by simp [Op.operands])]
  case mapUpdate t x y z => simp only [execOp, ho]; rw [h x (by simp [Op.operands]), h y (by simp [Op.operands]), h z (by simp [Op.operands])]
  case alloc t => simp only [execOp, ho]
  case build t ps =>
    have : (ps.map fun p => (p.1, ρ p.2)) = ps.map fun p => (p.1, σ p.2) := by
      apply Array.map_congr_left
      intro p hp
      rw [h p.2 (by simp [Op.operands]; exact ⟨p.1, hp⟩)]
    simp only [execOp, ho]; rw [this]
  case buildSlice t l ps =>
    have : (ps.map fun p => (p.1, ρ p.2)) = ps.map fun p => (p.1, σ p.2) := by
      apply Array.map_congr_left
      intro p hp
      rw [h p.2 (by simp [Op.operands]; exact ⟨p.1, hp⟩)]
    simp only [execOp, ho]; rw [this]
  case makeFunc fn xs ys =>
    simp only [execOp, ho]
    rw [map_congr_of (xs := xs) fun x hx => h x (by simp [Op.operands, hx]), map_congr_of (xs := ys) fun x hx => h x (by simp [Op.operands, hx])]
  case makeMap t r =>
    cases r with
    | none => simp only [execOp, ho]; rfl
    | some x => simp only [execOp, ho, Option.map]; rw [h x (by simp [Op.operands])]
  case slice t x lo hi mx =>
    have e1 : lo.map ρ = lo.map σ := by cases lo with | none => rfl | some y => simp [h y (by simp [Op.operands])]
    have e2 : hi.map ρ = hi.map σ := by cases hi with | none => rfl | some y => simp [h y (by simp [Op.operands])]
    have e3 : mx.map ρ = mx.map σ := by cases mx with | none => rfl | some y => simp [h y (by simp [Op.operands])]
    simp only [execOp, ho]
    rw [h x (by simp [Op.operands]), e1, e2, e3]
  case call c =>
    have : resolve ρ c o.type = resolve σ c o.type := by
      unfold resolve
      replace h : ∀ x ∈ c.operands, ρ x = σ x := h
      unfold Call.operands at h
      cases hc : c.callee with
      | value f =>
        rw [hc] at h; simp only
        rw [h f (by simp), map_congr_of (xs := c.args) fun x hx => h x (by simp [hx])]
      | invoke r m =>
        rw [hc] at h; simp only
        rw [h r (by simp), map_congr_of (xs := c.args) fun x hx => h x (by simp [hx])]
      | builtin b =>
        rw [hc] at h; simp only
        rw [map_congr_of (xs := c.args) fun x hx => h x (by simp [hx])]
    simp only [execOp, ho]; rw [this]

/-- The guard of an operation, by what is known. -/
def guardE (ops : Array Oper) (env : List (Nat × Value)) (o : Oper) : Option Bool := match o.guard with
  | none => some true
  | some gb => match slotOf ops gb.1 with
    | none => none
    | some d => match look d env with
      | some (.bool c) => some (c == gb.2)
      | some (.tuple _) => some false
      | _ => none
theorem wanted_of {a : Act} {n : Nat} {env : List (Nat × Value)} {ops : Array Oper} {o : Oper} {b : Bool} (hK : Knows a n env) (h : guardE ops env o = some b) : Region.wanted o (yielded ops a.tmps) = b := by
  unfold guardE at h
  unfold Region.wanted
  cases hg : o.guard with
  | none => rw [hg] at h; exact Option.some.inj h
  | some gb =>
    obtain ⟨g, want⟩ := gb
    rw [hg] at h
    simp only at h ⊢
    cases hs : slotOf ops g with
    | none => rw [hs] at h; cases h
    | some d =>
      rw [hs] at h
      simp only at h
      cases hl : look d env with
      | none => rw [hl] at h; cases h
      | some v =>
        rw [hl] at h
        have hv := hK.val d v hl
        cases v with
        | bool c =>
          simp only [Option.some.injEq] at h
          have hy : yielded ops a.tmps g = some c := yielded_of (by unfold vat; rw [hs]; exact hv)
          rw [hy]; rw [← h]; cases c <;> cases want <;> rfl
        | tuple vs =>
          simp only [Option.some.injEq] at h
          subst h
          have hy : yielded ops a.tmps g = none := by
            unfold yielded
            unfold slotOf at hs
            rw [hs, Option.bind_some]
            cases ht : a.tmps[d]? with
            | none => rfl
            | some u =>
              have : a.eval (.tmp d) = u := ev_tmps ht
              rw [hv] at this; subst this; rfl
          rw [hy]; rfl
        | _ => simp at h
/-- The operation at a place. -/
def opAt (ops : Array Oper) (i : Nat) : Oper := (ops[i]?).getD default
def covE (env : List (Nat × Value)) (o : Oper) : Bool := plainOp o.op && o.op.operands.all (knownO env)
/-- Operation i is there, runs, reads what is known, and leaves its value in slot d of n. -/
def chk (ops : Array Oper) (env : List (Nat × Value)) (i n d : Nat) : Bool := match ops[i]? with
  | none => false
  | some o => (match o.dst with | some e => Nat.beq e d | none => false) && Nat.blt d n && (match guardE ops env o with | some b => b | none => false) && covE env o
def chk0 (ops : Array Oper) (env : List (Nat × Value)) (i : Nat) : Bool := match ops[i]? with
  | none => false
  | some o => o.dst.isNone && (match guardE ops env o with | some b => b | none => false) && covE env o
/-- Operation i is left out. -/
def chkN (ops : Array Oper) (env : List (Nat × Value)) (i n d : Nat) : Bool := match ops[i]? with
  | none => false
  | some o => (match o.dst with | some e => Nat.beq e d | none => false) && Nat.blt d n && (match guardE ops env o with | some b => !b | none => false)
section
variable {P : Program} {ops : Array Oper} {Q : Exit → Act → World → Prop} {a : Act} {n i : Nat} {env : List (Nat × Value)} {l : List Nat} {w w' : World}
theorem chk_parts {d : Nat} (h : chk ops env i n d = true) : ∃ o, ops[i]? = some o ∧ opAt ops i = o ∧ o.dst = some d ∧ Nat.blt d n = true ∧ guardE ops env o = some true ∧ covE env o = true := by
  unfold chk at h
  cases ho : ops[i]? with
  | none => rw [ho] at h; cases h
  | some o =>
    rw [ho] at h
    simp only [Bool.and_eq_true] at h
    obtain ⟨⟨⟨h1, h2⟩, h3⟩, h4⟩ := h
    refine ⟨o, rfl, by unfold opAt; rw [ho]; rfl, ?_, h2, ?_, h4⟩
    · cases hd : o.dst with
      | none => rw [hd] at h1; cases h1
      | some e => rw [hd] at h1; rw [Nat.eq_of_beq_eq_true h1]
    · cases hg : guardE ops env o with
      | none => rw [hg] at h3; cases h3
      | some b => rw [hg] at h3; exact congrArg some h3
theorem chk0_parts (h : chk0 ops env i = true) : ∃ o, ops[i]? = some o ∧ opAt ops i = o ∧ o.dst = none ∧ guardE ops env o = some true ∧ covE env o = true := by
  unfold chk0 at h
  cases ho : ops[i]? with
  | none => rw [ho] at h; cases h
  | some o =>
    rw [ho] at h
    simp only [Bool.and_eq_true] at h
    obtain ⟨⟨h1, h3⟩, h4⟩ := h
    refine ⟨o, rfl, by unfold opAt; rw [ho]; rfl, ?_, ?_, h4⟩
    · cases hd : o.dst with
      | none => rfl
      | some e => rw [hd] at h1; cases h1
    · cases hg : guardE ops env o with
      | none => rw [hg] at h3; cases h3
      | some b => rw [hg] at h3; exact congrArg some h3
theorem chkN_parts {d : Nat} (h : chkN ops env i n d = true) : ∃ o, ops[i]? = some o ∧ o.dst = some d ∧ Nat.blt d n = true ∧ guardE ops env o = some false := by
  unfold chkN at h
  cases ho : ops[i]? with
  | none => rw [ho] at h; cases h
  | some o =>
    rw [ho] at h
    simp only [Bool.and_eq_true] at h
    obtain ⟨⟨h1, h2⟩, h3⟩ := h
    refine ⟨o, rfl, ?_, h2, ?_⟩
    · cases hd : o.dst with
      | none => rw [hd] at h1; cases h1
      | some e => rw [hd] at h1; rw [Nat.eq_of_beq_eq_true h1]
    · cases hg : guardE ops env o with
      | none => rw [hg] at h3; cases h3
      | some b => rw [hg] at h3; cases b <;> simp_all
theorem Knows.exec {o : Oper} (hK : Knows a n env) (hc : covE env o = true) : execOp a.eval o = execOp (evE env) o := by
  unfold covE at hc
  rw [Bool.and_eq_true] at hc
  exact execOp_congr hc.1 fun x hx => hK.ev (by
    obtain ⟨k, hk, rfl⟩ := Array.getElem_of_mem hx
    exact Array.all_eq_true.1 hc.2 k hk)
/-- A step that leaves a value. -/
theorem stepV (hK : Knows a n env) (d : Nat) (v : Value) (hc : chk ops env i n d = true) (hr : (execOp (evE env) (opAt ops i)).run P w = .ok (.value v) w') (h : ∀ a', Knows a' n ((d, v) :: env) → wpOps P ops Q l a' w') : wpOps P ops Q (i :: l) a w := by
  obtain ⟨o, ho, h0, hd, hb, hg, hcov⟩ := chk_parts hc
  rw [h0] at hr
  rw [wpOps_cons]; unfold wpOp; rw [ho]
  show if Region.wanted o (yielded ops a.tmps) = true then _ else _
  rw [if_pos (wanted_of hK hg)]
  left
  unfold Oper.wp
  rw [hK.exec hcov, hr]
  show wpOps P ops Q l (a.put o.dst v) w'
  rw [hd]
  exact h _ (hK.put hb)
/-- A step that leaves a value, and the memory as it is. -/
theorem stepP (hK : Knows a n env) (d : Nat) (v : Value) (hc : chk ops env i n d = true) (hr : (execOp (evE env) (opAt ops i)).run P w = .ok (.value v) w) (h : ∀ a', Knows a' n ((d, v) :: env) → wpOps P ops Q l a' w) : wpOps P ops Q (i :: l) a w := stepV hK d v hc hr h
/-- A step that leaves nothing. -/
theorem stepS (hK : Knows a n env) (hc : chk0 ops env i = true) (hr : (execOp (evE env) (opAt ops i)).run P w = .ok .skip w') (h : wpOps P ops Q l a w') : wpOps P ops Q (i :: l) a w := by
  obtain ⟨o, ho, h0, hd, hg, hcov⟩ := chk0_parts hc
  rw [h0] at hr
  rw [wpOps_cons]; unfold wpOp; rw [ho]
  show if Region.wanted o (yielded ops a.tmps) = true then _ else _
  rw [if_pos (wanted_of hK hg)]
  left
  unfold Oper.wp
  rw [hK.exec hcov, hr]
  show wpOps P ops Q l (a.put o.dst undef) w'
  rw [hd]
  exact h
/-- A step that is left out. -/
theorem stepN (hK : Knows a n env) (d : Nat) (hc : chkN ops env i n d = true) (h : ∀ a', Knows a' n ((d, undef) :: env) → wpOps P ops Q l a' w) : wpOps P ops Q (i :: l) a w := by
  obtain ⟨o, ho, hd, hb, hg⟩ := chkN_parts hc
  rw [wpOps_cons]; unfold wpOp; rw [ho]
  show if Region.wanted o (yielded ops a.tmps) = true then _ else _
  rw [if_neg (by rw [wanted_of hK hg]; decide), hd]
  exact h _ (hK.put hb)
/-- A move, an assignment. -/
theorem stepM (hK : Knows a n env) (d k : Nat) {v : Value} (hc : chk ops env i n d = true) (ho : (opAt ops i).op = .move (.tmp k) ∨ (opAt ops i).op = .assign (.tmp k)) (hl : look k env = some v) (h : ∀ a', Knows a' n ((d, v) :: env) → wpOps P ops Q l a' w) : wpOps P ops Q (i :: l) a w :=
  stepV hK d v hc (by
    have e : evE env (.tmp k) = v := by show (look k env).getD undef = v; rw [hl]; rfl
    rcases ho with ho | ho
    · unfold execOp; rw [ho, ← e]; rfl
    · unfold execOp; rw [ho, ← e]; rfl) h
/-- A call of a function of the program. -/
theorem stepC (hK : Knows a n env) (d : Nat) {f : FuncId} (args : Array Value) (hc : chk ops env i n d = true) (he : (execOp (evE env) (opAt ops i)).run P w = .ok (.enter f args) w)
    (hf : Calls P f args w fun e w' => ∃ v, e = .returned v ∧ ∀ a', Knows a' n ((d, v) :: env) → wpOps P ops Q l a' w') : wpOps P ops Q (i :: l) a w := by
  obtain ⟨o, ho, h0, hd, hb, hg, hcov⟩ := chk_parts hc
  rw [h0] at he
  rw [wpOps_cons]; unfold wpOp; rw [ho]
  show if Region.wanted o (yielded ops a.tmps) = true then _ else _
  rw [if_pos (wanted_of hK hg)]
  left
  unfold Oper.wp
  rw [hK.exec hcov, he]
  refine hf.mono ?_
  rintro e w' ⟨v, rfl, h⟩
  show wpOps P ops Q l (a.put o.dst v) w'
  rw [hd]
  exact h _ (hK.put hb)
theorem exit_then {id : Nat} {K : Act → World → Prop} (h : Q (.exit id) a w) : Exit.then K Q (.exit id) a w := h
theorem exit_here (id : Nat) (h : Q .normal a w) : Exit.inBlock id Q (.exit id) a w := by
  show if id = id then _ else _
  rw [if_pos rfl]; exact h
theorem exit_past {id id' : Nat} (hne : Nat.beq id' id = false) (h : Q (.exit id') a w) : Exit.inBlock id Q (.exit id') a w := by
  show if id' = id then _ else _
  rw [if_neg (Nat.ne_of_beq_eq_false hne)]; exact h
end
end Go.Proofs.YtmfiiapmkidmkaaDoor
