/-
  No cell of these rows narrows 'for every input' (looked for: loops, veiled, ifaces, maps, wideKeys, modest, calm, conditions, laid).
  DERIVED. THE GIVEN ROWS OF THIS SEAT. 11 by the template 'for every input the law returns true; each argument reads behind the call as it read before'; 0 by the template 'total and deterministic' (their statements: YtmhoblefpkjdlaaTotals.lean).
  GIVEN WITH THE SEED: the statements are not yours to turn. If you find one false, say at which input.
  Laid BY PROGRAM, IN A SANDBOX (cutbox-rows.mjs): the forced cells as the released guide's own fill.sh prints them over the translation 303613d31d73224b… (all of the seat's roots in one cut). By AI agents, Wed Nov 11 2026. No macro, syntax, notation, axiom, sorry.
-/
import Derived.Test.YtmhoblefpkjdlaaChecked
import GoSem.Claim
import GoSem.ClaimJoined
import GoSem.ClaimMapViews
import Derived.JoinedTies
import Derived.KernelRfl
namespace Go.Proofs.Ytmhoblefpkjdlaa
/- THE CELL 'sum', in the pinned program and in every row, IS THE sha256 OF THE DUMP (.gsa) THAT YtmhoblefpkjdlaaProg.lean LOADS. Nothing in Lean hashes anything: it is a label: what it is worth is what the hold of that sum in a sandbox is worth. -/
noncomputable def Try.pinned : Pinned := { name := "ytmhoblefpkjdlaa", sum := "303613d31d73224b87c66ea42d471710c6f6bcd2e7a1292f9040f7bf33ccd70e", checked := Try.checked }
namespace Rows
def none {H : Type} : Left H := { results := [], args := [] }

/-- 'causewaylaw02.FieldFrom': WHATEVER THE INPUT: true; the input reads as it did. -/
def fieldFromSpec : ChangeSpec := { name := "fieldFrom", fn := fun _ => fun
  | [d1, d2] => { results := [.lit (.bool true)], args := [d1, d2] }
  | _ => none }
def fieldFromRow : OpenClaim := { program := "ytmhoblefpkjdlaa", sum := "303613d31d73224b87c66ea42d471710c6f6bcd2e7a1292f9040f7bf33ccd70e", func := "causeway/causewaylaw02.FieldFrom", spec := "fieldFrom", inPlace := ["math/bits.Add64"], apart := false }
def FieldFromSaid : Prop := fieldFromRow.holds Try.pinned (OpenSpec.ofChange fieldFromSpec)

/-- ITS FALSE NEIGHBOUR: 'it returns false'. Refute it at one input. -/
def fieldFromWrong : ChangeSpec := { name := "fieldFrom", fn := fun _ => fun
  | [d1, d2] => { results := [.lit (.bool false)], args := [d1, d2] }
  | _ => none }
def FieldFromWrongFalsely : Prop := fieldFromRow.holds Try.pinned (OpenSpec.ofChange fieldFromWrong)

/-- 'causewaylaw02.FieldAdd': WHATEVER THE INPUT: true; the input reads as it did. -/
def fieldAddSpec : ChangeSpec := { name := "fieldAdd", fn := fun _ => fun
  | [d1, d2] => { results := [.lit (.bool true)], args := [d1, d2] }
  | _ => none }
def fieldAddRow : OpenClaim := { program := "ytmhoblefpkjdlaa", sum := "303613d31d73224b87c66ea42d471710c6f6bcd2e7a1292f9040f7bf33ccd70e", func := "causeway/causewaylaw02.FieldAdd", spec := "fieldAdd", inPlace := ["math/bits.Add64"], apart := false }
def FieldAddSaid : Prop := fieldAddRow.holds Try.pinned (OpenSpec.ofChange fieldAddSpec)

/-- ITS FALSE NEIGHBOUR: 'it returns false'. Refute it at one input. -/
def fieldAddWrong : ChangeSpec := { name := "fieldAdd", fn := fun _ => fun
  | [d1, d2] => { results := [.lit (.bool false)], args := [d1, d2] }
  | _ => none }
def FieldAddWrongFalsely : Prop := fieldAddRow.holds Try.pinned (OpenSpec.ofChange fieldAddWrong)

/-- 'causewaylaw02.FieldSub': WHATEVER THE INPUT: true; the input reads as it did. -/
def fieldSubSpec : ChangeSpec := { name := "fieldSub", fn := fun _ => fun
  | [d1, d2] => { results := [.lit (.bool true)], args := [d1, d2] }
  | _ => none }
def fieldSubRow : OpenClaim := { program := "ytmhoblefpkjdlaa", sum := "303613d31d73224b87c66ea42d471710c6f6bcd2e7a1292f9040f7bf33ccd70e", func := "causeway/causewaylaw02.FieldSub", spec := "fieldSub", inPlace := ["math/bits.Add64", "math/bits.Sub64"], apart := false }
def FieldSubSaid : Prop := fieldSubRow.holds Try.pinned (OpenSpec.ofChange fieldSubSpec)

/-- ITS FALSE NEIGHBOUR: 'it returns false'. Refute it at one input. -/
def fieldSubWrong : ChangeSpec := { name := "fieldSub", fn := fun _ => fun
  | [d1, d2] => { results := [.lit (.bool false)], args := [d1, d2] }
  | _ => none }
def FieldSubWrongFalsely : Prop := fieldSubRow.holds Try.pinned (OpenSpec.ofChange fieldSubWrong)

/-- 'causewaylaw02.FieldMul': WHATEVER THE INPUT: true; the input reads as it did. -/
def fieldMulSpec : ChangeSpec := { name := "fieldMul", fn := fun _ => fun
  | [d1, d2] => { results := [.lit (.bool true)], args := [d1, d2] }
  | _ => none }
def fieldMulRow : OpenClaim := { program := "ytmhoblefpkjdlaa", sum := "303613d31d73224b87c66ea42d471710c6f6bcd2e7a1292f9040f7bf33ccd70e", func := "causeway/causewaylaw02.FieldMul", spec := "fieldMul", inPlace := ["math/bits.Add64"], apart := false }
def FieldMulSaid : Prop := fieldMulRow.holds Try.pinned (OpenSpec.ofChange fieldMulSpec)

/-- ITS FALSE NEIGHBOUR: 'it returns false'. Refute it at one input. -/
def fieldMulWrong : ChangeSpec := { name := "fieldMul", fn := fun _ => fun
  | [d1, d2] => { results := [.lit (.bool false)], args := [d1, d2] }
  | _ => none }
def FieldMulWrongFalsely : Prop := fieldMulRow.holds Try.pinned (OpenSpec.ofChange fieldMulWrong)

/-- 'causewaylaw02.FieldInv': WHATEVER THE INPUT: true; the input reads as it did. -/
def fieldInvSpec : ChangeSpec := { name := "fieldInv", fn := fun _ => fun
  | [d] => { results := [.lit (.bool true)], args := [d] }
  | _ => none }
def fieldInvRow : OpenClaim := { program := "ytmhoblefpkjdlaa", sum := "303613d31d73224b87c66ea42d471710c6f6bcd2e7a1292f9040f7bf33ccd70e", func := "causeway/causewaylaw02.FieldInv", spec := "fieldInv", inPlace := ["math/bits.Add64"], apart := false }
def FieldInvSaid : Prop := fieldInvRow.holds Try.pinned (OpenSpec.ofChange fieldInvSpec)

/-- ITS FALSE NEIGHBOUR: 'it returns false'. Refute it at one input. -/
def fieldInvWrong : ChangeSpec := { name := "fieldInv", fn := fun _ => fun
  | [d] => { results := [.lit (.bool false)], args := [d] }
  | _ => none }
def FieldInvWrongFalsely : Prop := fieldInvRow.holds Try.pinned (OpenSpec.ofChange fieldInvWrong)

/-- 'causewaylaw02.FieldSwap': WHATEVER THE INPUT: true; the input reads as it did. -/
def fieldSwapSpec : ChangeSpec := { name := "fieldSwap", fn := fun _ => fun
  | [d1, d2, d3] => { results := [.lit (.bool true)], args := [d1, d2, d3] }
  | _ => none }
def fieldSwapRow : OpenClaim := { program := "ytmhoblefpkjdlaa", sum := "303613d31d73224b87c66ea42d471710c6f6bcd2e7a1292f9040f7bf33ccd70e", func := "causeway/causewaylaw02.FieldSwap", spec := "fieldSwap", inPlace := ["math/bits.Add64"], apart := false }
def FieldSwapSaid : Prop := fieldSwapRow.holds Try.pinned (OpenSpec.ofChange fieldSwapSpec)

/-- ITS FALSE NEIGHBOUR: 'it returns false'. Refute it at one input. -/
def fieldSwapWrong : ChangeSpec := { name := "fieldSwap", fn := fun _ => fun
  | [d1, d2, d3] => { results := [.lit (.bool false)], args := [d1, d2, d3] }
  | _ => none }
def FieldSwapWrongFalsely : Prop := fieldSwapRow.holds Try.pinned (OpenSpec.ofChange fieldSwapWrong)

/-- 'causewaylaw02.FieldRing': WHATEVER THE INPUT: true; the input reads as it did. -/
def fieldRingSpec : ChangeSpec := { name := "fieldRing", fn := fun _ => fun
  | [d1, d2, d3] => { results := [.lit (.bool true)], args := [d1, d2, d3] }
  | _ => none }
def fieldRingRow : OpenClaim := { program := "ytmhoblefpkjdlaa", sum := "303613d31d73224b87c66ea42d471710c6f6bcd2e7a1292f9040f7bf33ccd70e", func := "causeway/causewaylaw02.FieldRing", spec := "fieldRing", inPlace := ["math/bits.Add64", "math/bits.Sub64"], apart := false }
def FieldRingSaid : Prop := fieldRingRow.holds Try.pinned (OpenSpec.ofChange fieldRingSpec)

/-- ITS FALSE NEIGHBOUR: 'it returns false'. Refute it at one input. -/
def fieldRingWrong : ChangeSpec := { name := "fieldRing", fn := fun _ => fun
  | [d1, d2, d3] => { results := [.lit (.bool false)], args := [d1, d2, d3] }
  | _ => none }
def FieldRingWrongFalsely : Prop := fieldRingRow.holds Try.pinned (OpenSpec.ofChange fieldRingWrong)

/-- 'causewaylaw02.FieldInverse': WHATEVER THE INPUT: true; the input reads as it did. -/
def fieldInverseSpec : ChangeSpec := { name := "fieldInverse", fn := fun _ => fun
  | [d] => { results := [.lit (.bool true)], args := [d] }
  | _ => none }
def fieldInverseRow : OpenClaim := { program := "ytmhoblefpkjdlaa", sum := "303613d31d73224b87c66ea42d471710c6f6bcd2e7a1292f9040f7bf33ccd70e", func := "causeway/causewaylaw02.FieldInverse", spec := "fieldInverse", inPlace := ["math/bits.Add64", "math/bits.Sub64"], apart := false }
def FieldInverseSaid : Prop := fieldInverseRow.holds Try.pinned (OpenSpec.ofChange fieldInverseSpec)

/-- ITS FALSE NEIGHBOUR: 'it returns false'. Refute it at one input. -/
def fieldInverseWrong : ChangeSpec := { name := "fieldInverse", fn := fun _ => fun
  | [d] => { results := [.lit (.bool false)], args := [d] }
  | _ => none }
def FieldInverseWrongFalsely : Prop := fieldInverseRow.holds Try.pinned (OpenSpec.ofChange fieldInverseWrong)

/-- 'causewaylaw02.FieldBytes': WHATEVER THE INPUT: true; the input reads as it did. -/
def fieldBytesSpec : ChangeSpec := { name := "fieldBytes", fn := fun _ => fun
  | [d] => { results := [.lit (.bool true)], args := [d] }
  | _ => none }
def fieldBytesRow : OpenClaim := { program := "ytmhoblefpkjdlaa", sum := "303613d31d73224b87c66ea42d471710c6f6bcd2e7a1292f9040f7bf33ccd70e", func := "causeway/causewaylaw02.FieldBytes", spec := "fieldBytes", inPlace := ["math/bits.Add64", "math/bits.Sub64"], apart := false }
def FieldBytesSaid : Prop := fieldBytesRow.holds Try.pinned (OpenSpec.ofChange fieldBytesSpec)

/-- ITS FALSE NEIGHBOUR: 'it returns false'. Refute it at one input. -/
def fieldBytesWrong : ChangeSpec := { name := "fieldBytes", fn := fun _ => fun
  | [d] => { results := [.lit (.bool false)], args := [d] }
  | _ => none }
def FieldBytesWrongFalsely : Prop := fieldBytesRow.holds Try.pinned (OpenSpec.ofChange fieldBytesWrong)

/-- 'causewaylaw02.FieldSmall': WHATEVER THE INPUT: true; the input reads as it did. -/
def fieldSmallSpec : ChangeSpec := { name := "fieldSmall", fn := fun _ => fun
  | [d1, d2] => { results := [.lit (.bool true)], args := [d1, d2] }
  | _ => none }
def fieldSmallRow : OpenClaim := { program := "ytmhoblefpkjdlaa", sum := "303613d31d73224b87c66ea42d471710c6f6bcd2e7a1292f9040f7bf33ccd70e", func := "causeway/causewaylaw02.FieldSmall", spec := "fieldSmall", inPlace := ["math/bits.Add64", "math/bits.Sub64"], apart := false }
def FieldSmallSaid : Prop := fieldSmallRow.holds Try.pinned (OpenSpec.ofChange fieldSmallSpec)

/-- ITS FALSE NEIGHBOUR: 'it returns false'. Refute it at one input. -/
def fieldSmallWrong : ChangeSpec := { name := "fieldSmall", fn := fun _ => fun
  | [d1, d2] => { results := [.lit (.bool false)], args := [d1, d2] }
  | _ => none }
def FieldSmallWrongFalsely : Prop := fieldSmallRow.holds Try.pinned (OpenSpec.ofChange fieldSmallWrong)

/-- 'causewaylaw02.FieldNames': WHATEVER THE INPUT: true; the input reads as it did. -/
def fieldNamesSpec : ChangeSpec := { name := "fieldNames", fn := fun _ => fun
  | [] => { results := [.lit (.bool true)], args := [] }
  | _ => none }
def fieldNamesRow : OpenClaim := { program := "ytmhoblefpkjdlaa", sum := "303613d31d73224b87c66ea42d471710c6f6bcd2e7a1292f9040f7bf33ccd70e", func := "causeway/causewaylaw02.FieldNames", spec := "fieldNames", inPlace := ["math/bits.Add64", "math/bits.Sub64"], apart := false }
def FieldNamesSaid : Prop := fieldNamesRow.holds Try.pinned (OpenSpec.ofChange fieldNamesSpec)

/-- ITS FALSE NEIGHBOUR: 'it returns false'. Refute it at one input. -/
def fieldNamesWrong : ChangeSpec := { name := "fieldNames", fn := fun _ => fun
  | [] => { results := [.lit (.bool false)], args := [] }
  | _ => none }
def FieldNamesWrongFalsely : Prop := fieldNamesRow.holds Try.pinned (OpenSpec.ofChange fieldNamesWrong)

/- THE SECOND FORM. 'bulk': how many values and letters a reading holds, each counted each time it is reached (what is shared counts as often as it is met; a slice's spare places count too). A statement '..UptoSaid' is the law's where the arguments, and the package variables that the reading takes, are together of bulk at most 1048576: NARROWER than '..Said'. Prove '..Said' where nothing that the law and all that it calls make is longer than what came in: it says more and counts as full. Else prove '..UptoSaid'. A law counts once. -/
mutual
def uptoBulk {H : Type} : DataW H → Nat
  | .lit (.string bytes) => bytes.length + 1
  | .lit _ => 1
  | .nil => 1
  | .ptr d => uptoBulk d + 1
  | .slice elems spare => uptoBulkAll elems + uptoBulkAll spare + 1
  | .agg parts => uptoBulkAll parts + 1
  | .iface _ d => uptoBulk d + 1
  | .map entries => uptoBulkEntries entries + 1
  | .held _ => 1
def uptoBulkAll {H : Type} : List (DataW H) → Nat
  | [] => 0
  | d :: r => uptoBulk d + uptoBulkAll r
def uptoBulkEntries {H : Type} : List (Lit × DataW H) → Nat
  | [] => 0
  | x :: r => uptoBulkEntry x + uptoBulkEntries r
def uptoBulkEntry {H : Type} : Lit × DataW H → Nat
  | (.string bytes, d) => bytes.length + uptoBulk d + 1
  | (_, d) => uptoBulk d + 1
 end
def uptoSmall : (H : Type) → List (DataW H) → Bool := fun _ ds => decide (uptoBulkAll ds ≤ 1048576)
def OpenSpec.upto (s : _root_.Go.ChangeSpec) : _root_.Go.OpenSpec := { _root_.Go.OpenSpec.ofChange s with cond := some uptoSmall }

/-- 'causewaylaw02.FieldFrom', WHERE WHAT IT READS IS OF BULK AT MOST 1048576: true; the input reads as it did. -/
def fieldFromUptoRow : OpenClaim := { program := "ytmhoblefpkjdlaa", sum := "303613d31d73224b87c66ea42d471710c6f6bcd2e7a1292f9040f7bf33ccd70e", func := "causeway/causewaylaw02.FieldFrom", spec := "fieldFrom", inPlace := ["math/bits.Add64"], apart := false, narrowed := true }
def FieldFromUptoSaid : Prop := fieldFromUptoRow.holds Try.pinned (OpenSpec.upto fieldFromSpec)

/-- 'causewaylaw02.FieldAdd', WHERE WHAT IT READS IS OF BULK AT MOST 1048576: true; the input reads as it did. -/
def fieldAddUptoRow : OpenClaim := { program := "ytmhoblefpkjdlaa", sum := "303613d31d73224b87c66ea42d471710c6f6bcd2e7a1292f9040f7bf33ccd70e", func := "causeway/causewaylaw02.FieldAdd", spec := "fieldAdd", inPlace := ["math/bits.Add64"], apart := false, narrowed := true }
def FieldAddUptoSaid : Prop := fieldAddUptoRow.holds Try.pinned (OpenSpec.upto fieldAddSpec)

/-- 'causewaylaw02.FieldSub', WHERE WHAT IT READS IS OF BULK AT MOST 1048576: true; the input reads as it did. -/
def fieldSubUptoRow : OpenClaim := { program := "ytmhoblefpkjdlaa", sum := "303613d31d73224b87c66ea42d471710c6f6bcd2e7a1292f9040f7bf33ccd70e", func := "causeway/causewaylaw02.FieldSub", spec := "fieldSub", inPlace := ["math/bits.Add64", "math/bits.Sub64"], apart := false, narrowed := true }
def FieldSubUptoSaid : Prop := fieldSubUptoRow.holds Try.pinned (OpenSpec.upto fieldSubSpec)

/-- 'causewaylaw02.FieldMul', WHERE WHAT IT READS IS OF BULK AT MOST 1048576: true; the input reads as it did. -/
def fieldMulUptoRow : OpenClaim := { program := "ytmhoblefpkjdlaa", sum := "303613d31d73224b87c66ea42d471710c6f6bcd2e7a1292f9040f7bf33ccd70e", func := "causeway/causewaylaw02.FieldMul", spec := "fieldMul", inPlace := ["math/bits.Add64"], apart := false, narrowed := true }
def FieldMulUptoSaid : Prop := fieldMulUptoRow.holds Try.pinned (OpenSpec.upto fieldMulSpec)

/-- 'causewaylaw02.FieldInv', WHERE WHAT IT READS IS OF BULK AT MOST 1048576: true; the input reads as it did. -/
def fieldInvUptoRow : OpenClaim := { program := "ytmhoblefpkjdlaa", sum := "303613d31d73224b87c66ea42d471710c6f6bcd2e7a1292f9040f7bf33ccd70e", func := "causeway/causewaylaw02.FieldInv", spec := "fieldInv", inPlace := ["math/bits.Add64"], apart := false, narrowed := true }
def FieldInvUptoSaid : Prop := fieldInvUptoRow.holds Try.pinned (OpenSpec.upto fieldInvSpec)

/-- 'causewaylaw02.FieldSwap', WHERE WHAT IT READS IS OF BULK AT MOST 1048576: true; the input reads as it did. -/
def fieldSwapUptoRow : OpenClaim := { program := "ytmhoblefpkjdlaa", sum := "303613d31d73224b87c66ea42d471710c6f6bcd2e7a1292f9040f7bf33ccd70e", func := "causeway/causewaylaw02.FieldSwap", spec := "fieldSwap", inPlace := ["math/bits.Add64"], apart := false, narrowed := true }
def FieldSwapUptoSaid : Prop := fieldSwapUptoRow.holds Try.pinned (OpenSpec.upto fieldSwapSpec)

/-- 'causewaylaw02.FieldRing', WHERE WHAT IT READS IS OF BULK AT MOST 1048576: true; the input reads as it did. -/
def fieldRingUptoRow : OpenClaim := { program := "ytmhoblefpkjdlaa", sum := "303613d31d73224b87c66ea42d471710c6f6bcd2e7a1292f9040f7bf33ccd70e", func := "causeway/causewaylaw02.FieldRing", spec := "fieldRing", inPlace := ["math/bits.Add64", "math/bits.Sub64"], apart := false, narrowed := true }
def FieldRingUptoSaid : Prop := fieldRingUptoRow.holds Try.pinned (OpenSpec.upto fieldRingSpec)

/-- 'causewaylaw02.FieldInverse', WHERE WHAT IT READS IS OF BULK AT MOST 1048576: true; the input reads as it did. -/
def fieldInverseUptoRow : OpenClaim := { program := "ytmhoblefpkjdlaa", sum := "303613d31d73224b87c66ea42d471710c6f6bcd2e7a1292f9040f7bf33ccd70e", func := "causeway/causewaylaw02.FieldInverse", spec := "fieldInverse", inPlace := ["math/bits.Add64", "math/bits.Sub64"], apart := false, narrowed := true }
def FieldInverseUptoSaid : Prop := fieldInverseUptoRow.holds Try.pinned (OpenSpec.upto fieldInverseSpec)

/-- 'causewaylaw02.FieldBytes', WHERE WHAT IT READS IS OF BULK AT MOST 1048576: true; the input reads as it did. -/
def fieldBytesUptoRow : OpenClaim := { program := "ytmhoblefpkjdlaa", sum := "303613d31d73224b87c66ea42d471710c6f6bcd2e7a1292f9040f7bf33ccd70e", func := "causeway/causewaylaw02.FieldBytes", spec := "fieldBytes", inPlace := ["math/bits.Add64", "math/bits.Sub64"], apart := false, narrowed := true }
def FieldBytesUptoSaid : Prop := fieldBytesUptoRow.holds Try.pinned (OpenSpec.upto fieldBytesSpec)

/-- 'causewaylaw02.FieldSmall', WHERE WHAT IT READS IS OF BULK AT MOST 1048576: true; the input reads as it did. -/
def fieldSmallUptoRow : OpenClaim := { program := "ytmhoblefpkjdlaa", sum := "303613d31d73224b87c66ea42d471710c6f6bcd2e7a1292f9040f7bf33ccd70e", func := "causeway/causewaylaw02.FieldSmall", spec := "fieldSmall", inPlace := ["math/bits.Add64", "math/bits.Sub64"], apart := false, narrowed := true }
def FieldSmallUptoSaid : Prop := fieldSmallUptoRow.holds Try.pinned (OpenSpec.upto fieldSmallSpec)

/-- 'causewaylaw02.FieldNames', WHERE WHAT IT READS IS OF BULK AT MOST 1048576: true; the input reads as it did. -/
def fieldNamesUptoRow : OpenClaim := { program := "ytmhoblefpkjdlaa", sum := "303613d31d73224b87c66ea42d471710c6f6bcd2e7a1292f9040f7bf33ccd70e", func := "causeway/causewaylaw02.FieldNames", spec := "fieldNames", inPlace := ["math/bits.Add64", "math/bits.Sub64"], apart := false, narrowed := true }
def FieldNamesUptoSaid : Prop := fieldNamesUptoRow.holds Try.pinned (OpenSpec.upto fieldNamesSpec)

end Rows
end Go.Proofs.Ytmhoblefpkjdlaa
