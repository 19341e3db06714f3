/-
  Maps with keys that are texts: an entry put in, an entry looked up.
-/
import Derived.Test.YtmfiiapmkidmkaaDoorOps
namespace Go.Proofs.YtmfiiapmkidmkaaDoor
open Go Go.RowKit

section
variable {P : Program} {o : Oper} {ρ : Operand → Value} {w : World}
theorem run_checkS' {kt : TypeId} (hkt : P.underlying kt = some .string) (e : Bool) (s : ByteArray) (n : Nat) : (Instr.checkKey e (n + 1) kt (.string s)).run P w = .ok () w := by
  simp [Instr.checkKey, run_underlying hkt]
theorem run_checkS {kt : TypeId} (hkt : P.underlying kt = some .string) (e : Bool) (s : ByteArray) : (Instr.checkKey e 10000 kt (.string s)).run P w = .ok () w := run_checkS' hkt e s 9999
theorem run_findS {kt : TypeId} (hkt : P.underlying kt = some .string) {k : Value} {es : List MapEntry} {r : Option (Nat × Value)} (hf : Instr.findNow .string k es 0 = some r) : (Instr.findKey kt k es).run P w = .ok r w := by
  simp [Instr.findKey, run_underlying hkt, hf]
theorem run_insS {mt kt et : TypeId} {m k v : Operand} {b : Nat} {es : Array MapEntry} {clock : Nat} {s : ByteArray} {u : Value} (hop : o.op = .insert mt m k v) (hm : ρ m = .map (some b)) (hk : ρ k = .string s) (hv : ρ v = u) (hmt : P.underlying mt = some (.map kt et)) (hkt : P.underlying kt = some .string) (hh : w.heap[b]? = some (.map es clock)) (hf : Instr.findNow .string (.string s) es.toList 0 = some none) : (execOp ρ o).run P w = .ok .skip (putObj w b (.map (es.push ⟨.string s, u, clock⟩) (clock + 1))) := by
  simp [execOp, hop, hm, hk, hv, Instr.mapUpdate, run_underlying hmt, getObj, setObj, Sem.run, hh, run_checkS hkt, run_findS hkt hf, putObj]
theorem run_lookS_no {mt kt et : TypeId} {m k : Operand} {b : Nat} {es : Array MapEntry} {clock : Nat} {s : ByteArray} {z : Value} (hop : o.op = .lookup mt m k true) (hm : ρ m = .map (some b)) (hk : ρ k = .string s) (hmt : P.underlying mt = some (.map kt et)) (hkt : P.underlying kt = some .string) (hh : w.heap[b]? = some (.map es clock)) (hz : (P.info? et).bind (·.zero) = some z) (hf : Instr.findNow .string (.string s) es.toList 0 = some none) : (execOp ρ o).run P w = .ok (.value (.tuple #[z, .bool false])) w := by
  obtain ⟨i, hi, hz⟩ := Option.bind_eq_some_iff.1 hz
  simp [execOp, hop, hm, hk, Instr.lookup, run_underlying hmt, getObj, Sem.run, hh, run_checkS hkt, run_findS hkt hf, zeroValue, typeInfo, hi, hz]
theorem run_lookS_yes {mt kt et : TypeId} {m k : Operand} {b j : Nat} {es : Array MapEntry} {clock : Nat} {s : ByteArray} {v : Value} (hop : o.op = .lookup mt m k true) (hm : ρ m = .map (some b)) (hk : ρ k = .string s) (hmt : P.underlying mt = some (.map kt et)) (hkt : P.underlying kt = some .string) (hh : w.heap[b]? = some (.map es clock)) (hf : Instr.findNow .string (.string s) es.toList 0 = some (some (j, v))) : (execOp ρ o).run P w = .ok (.value (.tuple #[v, .bool true])) w := by
  simp [execOp, hop, hm, hk, Instr.lookup, run_underlying hmt, getObj, Sem.run, hh, run_checkS hkt, run_findS hkt hf]
end
/-- Entries of a set of texts. -/
def setEs : Nat → List (List UInt8) → List MapEntry
  | _, [] => []
  | i, k :: ks => ⟨Str k, .agg #[], i⟩ :: setEs (i + 1) ks
theorem same_str (l k : List UInt8) : Instr.sameNow .string (Str l) (Str k) = some (l == k) := by
  show some ((l.toArray : Array UInt8) == k.toArray) = _
  simp
theorem set_no : ∀ (ks : List (List UInt8)) (l : List UInt8) (i : Nat), ks.contains l = false → Instr.findNow .string (Str l) (setEs i ks) i = some none := by
  intro ks
  induction ks with
  | nil => intro l i _; rfl
  | cons k ks ih =>
    intro l i h
    rw [List.contains_cons, Bool.or_eq_false_iff] at h
    unfold setEs Instr.findNow
    simp only [same_str, h.1]
    exact ih l (i + 1) h.2
theorem set_yes : ∀ (ks : List (List UInt8)) (l : List UInt8) (i : Nat), ks.contains l = true → ∃ j, Instr.findNow .string (Str l) (setEs i ks) i = some (some (j, .agg #[])) := by
  intro ks
  induction ks with
  | nil => intro l i h; cases h
  | cons k ks ih =>
    intro l i h
    unfold setEs Instr.findNow
    simp only [same_str]
    cases hk : (l == k) with
    | true => exact ⟨i, rfl⟩
    | false =>
      rw [List.contains_cons, hk, Bool.false_or] at h
      exact ih l (i + 1) h
end Go.Proofs.YtmfiiapmkidmkaaDoor
