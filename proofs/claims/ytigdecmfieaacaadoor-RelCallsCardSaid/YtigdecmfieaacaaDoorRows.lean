/-
  NARROWER THAN 'FOR EVERY INPUT', by the rows' own cells (each row's printed sentence says how): RelNames: laid · RelMakes: laid · RelCalls: laid · RelAlgebra: laid · RelPlus: laid · RelReach: laid.
  DERIVED. THE GIVEN ROWS OF THIS SEAT. 6 by the template 'for every input the law returns true; each argument reads behind the call as it read before'; 0 by the template 'total and deterministic' (their statements: YtigdecmfieaacaaDoorTotals.lean).
  GIVEN WITH THE SEED: the statements are not yours to turn. If you find one false, say at which input.
  Laid BY PROGRAM, IN A SANDBOX (cutbox-rows.mjs): the forced cells as the released guide's own fill.sh prints them over the translation 740fbdff93f5fa0a… (all of the seat's roots in one cut). By AI agents, Wed Nov 11 2026. No macro, syntax, notation, axiom, sorry.
-/
import Derived.Test.YtigdecmfieaacaaDoorChecked
import GoSem.Claim
import GoSem.ClaimJoined
import GoSem.ClaimMapViews
import Derived.JoinedTies
import Derived.KernelRfl
namespace Go.Proofs.YtigdecmfieaacaaDoor
/- THE CELL 'sum', in the pinned program and in every row, IS THE sha256 OF THE DUMP (.gsa) THAT YtigdecmfieaacaaDoorProg.lean LOADS. Nothing in Lean hashes anything: it is a label: what it is worth is what the hold of that sum in a sandbox is worth. -/
noncomputable def Tryd.pinned : Pinned := { name := "ytigdecmfieaacaadoor", sum := "740fbdff93f5fa0a1894bdb61c4d4f57e7b9db276248897a83bf48cd27ce7843", checked := Tryd.checked }
namespace Rows
def none {H : Type} : Left H := { results := [], args := [] }

/- WHAT THE LISTED PACKAGE-LEVEL VARIABLES READ AS WHEN THE CALL BEGINS. Each datum BY PROGRAM (the guide's laid-datum.mjs) off the statement by which the dump's own 'gosem.cut.vars' lays the variable. In a bare row this is a premise. The card (YtigdecmfieaacaaDoorCards.lean) ties it to the program's text. -/
def laid_math_bits_deBruijn64tab {H : Type} : DataW H := .agg [.lit (.int .u8 0), .lit (.int .u8 1), .lit (.int .u8 56), .lit (.int .u8 2), .lit (.int .u8 57), .lit (.int .u8 49), .lit (.int .u8 28), .lit (.int .u8 3), .lit (.int .u8 61), .lit (.int .u8 58), .lit (.int .u8 42), .lit (.int .u8 50), .lit (.int .u8 38), .lit (.int .u8 29), .lit (.int .u8 17), .lit (.int .u8 4), .lit (.int .u8 62), .lit (.int .u8 47), .lit (.int .u8 59), .lit (.int .u8 36), .lit (.int .u8 45), .lit (.int .u8 43), .lit (.int .u8 51), .lit (.int .u8 22), .lit (.int .u8 53), .lit (.int .u8 39), .lit (.int .u8 33), .lit (.int .u8 30), .lit (.int .u8 24), .lit (.int .u8 18), .lit (.int .u8 12), .lit (.int .u8 5), .lit (.int .u8 63), .lit (.int .u8 55), .lit (.int .u8 48), .lit (.int .u8 27), .lit (.int .u8 60), .lit (.int .u8 41), .lit (.int .u8 37), .lit (.int .u8 16), .lit (.int .u8 46), .lit (.int .u8 35), .lit (.int .u8 44), .lit (.int .u8 21), .lit (.int .u8 52), .lit (.int .u8 32), .lit (.int .u8 23), .lit (.int .u8 11), .lit (.int .u8 54), .lit (.int .u8 26), .lit (.int .u8 40), .lit (.int .u8 15), .lit (.int .u8 34), .lit (.int .u8 20), .lit (.int .u8 31), .lit (.int .u8 10), .lit (.int .u8 25), .lit (.int .u8 14), .lit (.int .u8 19), .lit (.int .u8 9), .lit (.int .u8 13), .lit (.int .u8 8), .lit (.int .u8 7), .lit (.int .u8 6)]

/-- 'cantileverlaw01.RelNames': WHATEVER THE INPUT: true; the input reads as it did. -/
def relNamesSpec : ChangeSpec := { name := "relNames", fn := fun _ => fun
  | [] => { results := [.lit (.bool true)], args := [] }
  | _ => none }
def relNamesRow : OpenClaim := { program := "ytigdecmfieaacaadoor", sum := "740fbdff93f5fa0a1894bdb61c4d4f57e7b9db276248897a83bf48cd27ce7843", func := "cantilever/cantileverlaw01.RelNames", spec := "relNames", unfollowed := true, recurses := true, named := ["math/bits.deBruijn64tab"], apart := false, laid := [("math/bits.deBruijn64tab", laid_math_bits_deBruijn64tab)] }
def RelNamesSaid : Prop := relNamesRow.holds Tryd.pinned (OpenSpec.ofChange relNamesSpec)

/-- ITS FALSE NEIGHBOUR: 'it returns false'. Refute it at one input. -/
def relNamesWrong : ChangeSpec := { name := "relNames", fn := fun _ => fun
  | [] => { results := [.lit (.bool false)], args := [] }
  | _ => none }
def RelNamesWrongFalsely : Prop := relNamesRow.holds Tryd.pinned (OpenSpec.ofChange relNamesWrong)

/-- 'cantileverlaw01.RelMakes': WHATEVER THE INPUT: true; the input reads as it did. -/
def relMakesSpec : ChangeSpec := { name := "relMakes", fn := fun _ => fun
  | [d1, d2, d3, d4, d5] => { results := [.lit (.bool true)], args := [d1, d2, d3, d4, d5] }
  | _ => none }
def relMakesRow : OpenClaim := { program := "ytigdecmfieaacaadoor", sum := "740fbdff93f5fa0a1894bdb61c4d4f57e7b9db276248897a83bf48cd27ce7843", func := "cantilever/cantileverlaw01.RelMakes", spec := "relMakes", unfollowed := true, recurses := true, named := ["math/bits.deBruijn64tab"], apart := false, laid := [("math/bits.deBruijn64tab", laid_math_bits_deBruijn64tab)] }
def RelMakesSaid : Prop := relMakesRow.holds Tryd.pinned (OpenSpec.ofChange relMakesSpec)

/-- ITS FALSE NEIGHBOUR: 'it returns false'. Refute it at one input. -/
def relMakesWrong : ChangeSpec := { name := "relMakes", fn := fun _ => fun
  | [d1, d2, d3, d4, d5] => { results := [.lit (.bool false)], args := [d1, d2, d3, d4, d5] }
  | _ => none }
def RelMakesWrongFalsely : Prop := relMakesRow.holds Tryd.pinned (OpenSpec.ofChange relMakesWrong)

/-- 'cantileverlaw01.RelCalls': WHATEVER THE INPUT: true; the input reads as it did. -/
def relCallsSpec : ChangeSpec := { name := "relCalls", fn := fun _ => fun
  | [d1, d2, d3, d4, d5] => { results := [.lit (.bool true)], args := [d1, d2, d3, d4, d5] }
  | _ => none }
def relCallsRow : OpenClaim := { program := "ytigdecmfieaacaadoor", sum := "740fbdff93f5fa0a1894bdb61c4d4f57e7b9db276248897a83bf48cd27ce7843", func := "cantilever/cantileverlaw01.RelCalls", spec := "relCalls", unfollowed := true, recurses := true, named := ["math/bits.deBruijn64tab"], apart := false, laid := [("math/bits.deBruijn64tab", laid_math_bits_deBruijn64tab)] }
def RelCallsSaid : Prop := relCallsRow.holds Tryd.pinned (OpenSpec.ofChange relCallsSpec)

/-- ITS FALSE NEIGHBOUR: 'it returns false'. Refute it at one input. -/
def relCallsWrong : ChangeSpec := { name := "relCalls", fn := fun _ => fun
  | [d1, d2, d3, d4, d5] => { results := [.lit (.bool false)], args := [d1, d2, d3, d4, d5] }
  | _ => none }
def RelCallsWrongFalsely : Prop := relCallsRow.holds Tryd.pinned (OpenSpec.ofChange relCallsWrong)

/-- 'cantileverlaw01.RelAlgebra': WHATEVER THE INPUT: true; the input reads as it did. -/
def relAlgebraSpec : ChangeSpec := { name := "relAlgebra", fn := fun _ => fun
  | [d1, d2, d3] => { results := [.lit (.bool true)], args := [d1, d2, d3] }
  | _ => none }
def relAlgebraRow : OpenClaim := { program := "ytigdecmfieaacaadoor", sum := "740fbdff93f5fa0a1894bdb61c4d4f57e7b9db276248897a83bf48cd27ce7843", func := "cantilever/cantileverlaw01.RelAlgebra", spec := "relAlgebra", unfollowed := true, recurses := true, named := ["math/bits.deBruijn64tab"], apart := false, laid := [("math/bits.deBruijn64tab", laid_math_bits_deBruijn64tab)] }
def RelAlgebraSaid : Prop := relAlgebraRow.holds Tryd.pinned (OpenSpec.ofChange relAlgebraSpec)

/-- ITS FALSE NEIGHBOUR: 'it returns false'. Refute it at one input. -/
def relAlgebraWrong : ChangeSpec := { name := "relAlgebra", fn := fun _ => fun
  | [d1, d2, d3] => { results := [.lit (.bool false)], args := [d1, d2, d3] }
  | _ => none }
def RelAlgebraWrongFalsely : Prop := relAlgebraRow.holds Tryd.pinned (OpenSpec.ofChange relAlgebraWrong)

/-- 'cantileverlaw01.RelPlus': WHATEVER THE INPUT: true; the input reads as it did. -/
def relPlusSpec : ChangeSpec := { name := "relPlus", fn := fun _ => fun
  | [d1, d2] => { results := [.lit (.bool true)], args := [d1, d2] }
  | _ => none }
def relPlusRow : OpenClaim := { program := "ytigdecmfieaacaadoor", sum := "740fbdff93f5fa0a1894bdb61c4d4f57e7b9db276248897a83bf48cd27ce7843", func := "cantilever/cantileverlaw01.RelPlus", spec := "relPlus", unfollowed := true, recurses := true, named := ["math/bits.deBruijn64tab"], apart := false, laid := [("math/bits.deBruijn64tab", laid_math_bits_deBruijn64tab)] }
def RelPlusSaid : Prop := relPlusRow.holds Tryd.pinned (OpenSpec.ofChange relPlusSpec)

/-- ITS FALSE NEIGHBOUR: 'it returns false'. Refute it at one input. -/
def relPlusWrong : ChangeSpec := { name := "relPlus", fn := fun _ => fun
  | [d1, d2] => { results := [.lit (.bool false)], args := [d1, d2] }
  | _ => none }
def RelPlusWrongFalsely : Prop := relPlusRow.holds Tryd.pinned (OpenSpec.ofChange relPlusWrong)

/-- 'cantileverlaw01.RelReach': WHATEVER THE INPUT: true; the input reads as it did. -/
def relReachSpec : ChangeSpec := { name := "relReach", fn := fun _ => fun
  | [d1, d2, d3] => { results := [.lit (.bool true)], args := [d1, d2, d3] }
  | _ => none }
def relReachRow : OpenClaim := { program := "ytigdecmfieaacaadoor", sum := "740fbdff93f5fa0a1894bdb61c4d4f57e7b9db276248897a83bf48cd27ce7843", func := "cantilever/cantileverlaw01.RelReach", spec := "relReach", unfollowed := true, recurses := true, named := ["math/bits.deBruijn64tab"], apart := false, laid := [("math/bits.deBruijn64tab", laid_math_bits_deBruijn64tab)] }
def RelReachSaid : Prop := relReachRow.holds Tryd.pinned (OpenSpec.ofChange relReachSpec)

/-- ITS FALSE NEIGHBOUR: 'it returns false'. Refute it at one input. -/
def relReachWrong : ChangeSpec := { name := "relReach", fn := fun _ => fun
  | [d1, d2, d3] => { results := [.lit (.bool false)], args := [d1, d2, d3] }
  | _ => none }
def RelReachWrongFalsely : Prop := relReachRow.holds Tryd.pinned (OpenSpec.ofChange relReachWrong)

/- THE SECOND FORM. 'bulk': how many values and letters a reading holds, each counted each time it is reached (what is shared counts as often as it is met; a slice's spare places count too). A statement '..UptoSaid' is the law's where the arguments, and the package variables that the reading takes, are together of bulk at most 1048576: NARROWER than '..Said'. Prove '..Said' where nothing that the law and all that it calls make is longer than what came in: it says more and counts as full. Else prove '..UptoSaid'. A law counts once. -/
mutual
def uptoBulk {H : Type} : DataW H → Nat
  | .lit (.string bytes) => bytes.length + 1
  | .lit _ => 1
  | .nil => 1
  | .ptr d => uptoBulk d + 1
  | .slice elems spare => uptoBulkAll elems + uptoBulkAll spare + 1
  | .agg parts => uptoBulkAll parts + 1
  | .iface _ d => uptoBulk d + 1
  | .map entries => uptoBulkEntries entries + 1
  | .held _ => 1
def uptoBulkAll {H : Type} : List (DataW H) → Nat
  | [] => 0
  | d :: r => uptoBulk d + uptoBulkAll r
def uptoBulkEntries {H : Type} : List (Lit × DataW H) → Nat
  | [] => 0
  | x :: r => uptoBulkEntry x + uptoBulkEntries r
def uptoBulkEntry {H : Type} : Lit × DataW H → Nat
  | (.string bytes, d) => bytes.length + uptoBulk d + 1
  | (_, d) => uptoBulk d + 1
 end
def uptoSmall : (H : Type) → List (DataW H) → Bool := fun _ ds => decide (uptoBulkAll ds ≤ 1048576)
def OpenSpec.upto (s : _root_.Go.ChangeSpec) : _root_.Go.OpenSpec := { _root_.Go.OpenSpec.ofChange s with cond := some uptoSmall }

/-- 'cantileverlaw01.RelNames', WHERE WHAT IT READS IS OF BULK AT MOST 1048576: true; the input reads as it did. -/
def relNamesUptoRow : OpenClaim := { program := "ytigdecmfieaacaadoor", sum := "740fbdff93f5fa0a1894bdb61c4d4f57e7b9db276248897a83bf48cd27ce7843", func := "cantilever/cantileverlaw01.RelNames", spec := "relNames", unfollowed := true, recurses := true, named := ["math/bits.deBruijn64tab"], apart := false, laid := [("math/bits.deBruijn64tab", laid_math_bits_deBruijn64tab)], narrowed := true }
def RelNamesUptoSaid : Prop := relNamesUptoRow.holds Tryd.pinned (OpenSpec.upto relNamesSpec)

/-- 'cantileverlaw01.RelMakes', WHERE WHAT IT READS IS OF BULK AT MOST 1048576: true; the input reads as it did. -/
def relMakesUptoRow : OpenClaim := { program := "ytigdecmfieaacaadoor", sum := "740fbdff93f5fa0a1894bdb61c4d4f57e7b9db276248897a83bf48cd27ce7843", func := "cantilever/cantileverlaw01.RelMakes", spec := "relMakes", unfollowed := true, recurses := true, named := ["math/bits.deBruijn64tab"], apart := false, laid := [("math/bits.deBruijn64tab", laid_math_bits_deBruijn64tab)], narrowed := true }
def RelMakesUptoSaid : Prop := relMakesUptoRow.holds Tryd.pinned (OpenSpec.upto relMakesSpec)

/-- 'cantileverlaw01.RelCalls', WHERE WHAT IT READS IS OF BULK AT MOST 1048576: true; the input reads as it did. -/
def relCallsUptoRow : OpenClaim := { program := "ytigdecmfieaacaadoor", sum := "740fbdff93f5fa0a1894bdb61c4d4f57e7b9db276248897a83bf48cd27ce7843", func := "cantilever/cantileverlaw01.RelCalls", spec := "relCalls", unfollowed := true, recurses := true, named := ["math/bits.deBruijn64tab"], apart := false, laid := [("math/bits.deBruijn64tab", laid_math_bits_deBruijn64tab)], narrowed := true }
def RelCallsUptoSaid : Prop := relCallsUptoRow.holds Tryd.pinned (OpenSpec.upto relCallsSpec)

/-- 'cantileverlaw01.RelAlgebra', WHERE WHAT IT READS IS OF BULK AT MOST 1048576: true; the input reads as it did. -/
def relAlgebraUptoRow : OpenClaim := { program := "ytigdecmfieaacaadoor", sum := "740fbdff93f5fa0a1894bdb61c4d4f57e7b9db276248897a83bf48cd27ce7843", func := "cantilever/cantileverlaw01.RelAlgebra", spec := "relAlgebra", unfollowed := true, recurses := true, named := ["math/bits.deBruijn64tab"], apart := false, laid := [("math/bits.deBruijn64tab", laid_math_bits_deBruijn64tab)], narrowed := true }
def RelAlgebraUptoSaid : Prop := relAlgebraUptoRow.holds Tryd.pinned (OpenSpec.upto relAlgebraSpec)

/-- 'cantileverlaw01.RelPlus', WHERE WHAT IT READS IS OF BULK AT MOST 1048576: true; the input reads as it did. -/
def relPlusUptoRow : OpenClaim := { program := "ytigdecmfieaacaadoor", sum := "740fbdff93f5fa0a1894bdb61c4d4f57e7b9db276248897a83bf48cd27ce7843", func := "cantilever/cantileverlaw01.RelPlus", spec := "relPlus", unfollowed := true, recurses := true, named := ["math/bits.deBruijn64tab"], apart := false, laid := [("math/bits.deBruijn64tab", laid_math_bits_deBruijn64tab)], narrowed := true }
def RelPlusUptoSaid : Prop := relPlusUptoRow.holds Tryd.pinned (OpenSpec.upto relPlusSpec)

/-- 'cantileverlaw01.RelReach', WHERE WHAT IT READS IS OF BULK AT MOST 1048576: true; the input reads as it did. -/
def relReachUptoRow : OpenClaim := { program := "ytigdecmfieaacaadoor", sum := "740fbdff93f5fa0a1894bdb61c4d4f57e7b9db276248897a83bf48cd27ce7843", func := "cantilever/cantileverlaw01.RelReach", spec := "relReach", unfollowed := true, recurses := true, named := ["math/bits.deBruijn64tab"], apart := false, laid := [("math/bits.deBruijn64tab", laid_math_bits_deBruijn64tab)], narrowed := true }
def RelReachUptoSaid : Prop := relReachUptoRow.holds Tryd.pinned (OpenSpec.upto relReachSpec)

end Rows
end Go.Proofs.YtigdecmfieaacaaDoor
