/-
  No cell of these rows narrows 'for every input' (looked for: loops, veiled, ifaces, maps, wideKeys, modest, calm, conditions, laid).
  DERIVED. THE GIVEN ROWS OF THIS SEAT. 11 by the template 'for every input the law returns true; each argument reads behind the call as it read before'; 0 by the template 'total and deterministic' (their statements: YtcoggpedpclkaaaTotals.lean).
  GIVEN WITH THE SEED: the statements are not yours to turn. If you find one false, say at which input.
  Laid BY PROGRAM, IN A SANDBOX (cutbox-rows.mjs): the forced cells as the released guide's own fill.sh prints them over the translation d050e7108c24bad5… (all of the seat's roots in one cut). By AI agents, Wed Nov 11 2026. No macro, syntax, notation, axiom, sorry.
-/
import Derived.Test.YtcoggpedpclkaaaChecked
import GoSem.Claim
import GoSem.ClaimJoined
import GoSem.ClaimMapViews
import Derived.JoinedTies
import Derived.KernelRfl
namespace Go.Proofs.Ytcoggpedpclkaaa
/- THE CELL 'sum', in the pinned program and in every row, IS THE sha256 OF THE DUMP (.gsa) THAT YtcoggpedpclkaaaProg.lean LOADS. Nothing in Lean hashes anything: it is a label: what it is worth is what the hold of that sum in a sandbox is worth. -/
noncomputable def Try.pinned : Pinned := { name := "ytcoggpedpclkaaa", sum := "d050e7108c24bad55ad1c9f78dbe2aaa1caec7496df628e83ff485995bb22cdf", checked := Try.checked }
namespace Rows
def none {H : Type} : Left H := { results := [], args := [] }

/-- 'causewaylaw05.PolyTag': WHATEVER THE INPUT: true; the input reads as it did. -/
def polyTagSpec : ChangeSpec := { name := "polyTag", fn := fun _ => fun
  | [d1, d2] => { results := [.lit (.bool true)], args := [d1, d2] }
  | _ => none }
def polyTagRow : OpenClaim := { program := "ytcoggpedpclkaaa", sum := "d050e7108c24bad55ad1c9f78dbe2aaa1caec7496df628e83ff485995bb22cdf", func := "causeway/causewaylaw05.PolyTag", spec := "polyTag", inPlace := ["math/bits.Add64"], apart := false }
def PolyTagSaid : Prop := polyTagRow.holds Try.pinned (OpenSpec.ofChange polyTagSpec)

/-- ITS FALSE NEIGHBOUR: 'it returns false'. Refute it at one input. -/
def polyTagWrong : ChangeSpec := { name := "polyTag", fn := fun _ => fun
  | [d1, d2] => { results := [.lit (.bool false)], args := [d1, d2] }
  | _ => none }
def PolyTagWrongFalsely : Prop := polyTagRow.holds Try.pinned (OpenSpec.ofChange polyTagWrong)

/-- 'causewaylaw05.PolyPieces': WHATEVER THE INPUT: true; the input reads as it did. -/
def polyPiecesSpec : ChangeSpec := { name := "polyPieces", fn := fun _ => fun
  | [d1, d2] => { results := [.lit (.bool true)], args := [d1, d2] }
  | _ => none }
def polyPiecesRow : OpenClaim := { program := "ytcoggpedpclkaaa", sum := "d050e7108c24bad55ad1c9f78dbe2aaa1caec7496df628e83ff485995bb22cdf", func := "causeway/causewaylaw05.PolyPieces", spec := "polyPieces", inPlace := ["math/bits.Add64"], apart := false }
def PolyPiecesSaid : Prop := polyPiecesRow.holds Try.pinned (OpenSpec.ofChange polyPiecesSpec)

/-- ITS FALSE NEIGHBOUR: 'it returns false'. Refute it at one input. -/
def polyPiecesWrong : ChangeSpec := { name := "polyPieces", fn := fun _ => fun
  | [d1, d2] => { results := [.lit (.bool false)], args := [d1, d2] }
  | _ => none }
def PolyPiecesWrongFalsely : Prop := polyPiecesRow.holds Try.pinned (OpenSpec.ofChange polyPiecesWrong)

/-- 'causewaylaw05.PolySame': WHATEVER THE INPUT: true; the input reads as it did. -/
def polySameSpec : ChangeSpec := { name := "polySame", fn := fun _ => fun
  | [d1, d2] => { results := [.lit (.bool true)], args := [d1, d2] }
  | _ => none }
def polySameRow : OpenClaim := { program := "ytcoggpedpclkaaa", sum := "d050e7108c24bad55ad1c9f78dbe2aaa1caec7496df628e83ff485995bb22cdf", func := "causeway/causewaylaw05.PolySame", spec := "polySame", inPlace := ["math/bits.Add64"], apart := false }
def PolySameSaid : Prop := polySameRow.holds Try.pinned (OpenSpec.ofChange polySameSpec)

/-- ITS FALSE NEIGHBOUR: 'it returns false'. Refute it at one input. -/
def polySameWrong : ChangeSpec := { name := "polySame", fn := fun _ => fun
  | [d1, d2] => { results := [.lit (.bool false)], args := [d1, d2] }
  | _ => none }
def PolySameWrongFalsely : Prop := polySameRow.holds Try.pinned (OpenSpec.ofChange polySameWrong)

/-- 'causewaylaw05.PolySplit': WHATEVER THE INPUT: true; the input reads as it did. -/
def polySplitSpec : ChangeSpec := { name := "polySplit", fn := fun _ => fun
  | [d1, d2, d3] => { results := [.lit (.bool true)], args := [d1, d2, d3] }
  | _ => none }
def polySplitRow : OpenClaim := { program := "ytcoggpedpclkaaa", sum := "d050e7108c24bad55ad1c9f78dbe2aaa1caec7496df628e83ff485995bb22cdf", func := "causeway/causewaylaw05.PolySplit", spec := "polySplit", inPlace := ["math/bits.Add64"], apart := false }
def PolySplitSaid : Prop := polySplitRow.holds Try.pinned (OpenSpec.ofChange polySplitSpec)

/-- ITS FALSE NEIGHBOUR: 'it returns false'. Refute it at one input. -/
def polySplitWrong : ChangeSpec := { name := "polySplit", fn := fun _ => fun
  | [d1, d2, d3] => { results := [.lit (.bool false)], args := [d1, d2, d3] }
  | _ => none }
def PolySplitWrongFalsely : Prop := polySplitRow.holds Try.pinned (OpenSpec.ofChange polySplitWrong)

/-- 'causewaylaw05.PolyEmpty': WHATEVER THE INPUT: true; the input reads as it did. -/
def polyEmptySpec : ChangeSpec := { name := "polyEmpty", fn := fun _ => fun
  | [d] => { results := [.lit (.bool true)], args := [d] }
  | _ => none }
def polyEmptyRow : OpenClaim := { program := "ytcoggpedpclkaaa", sum := "d050e7108c24bad55ad1c9f78dbe2aaa1caec7496df628e83ff485995bb22cdf", func := "causeway/causewaylaw05.PolyEmpty", spec := "polyEmpty", inPlace := ["math/bits.Add64"], apart := false }
def PolyEmptySaid : Prop := polyEmptyRow.holds Try.pinned (OpenSpec.ofChange polyEmptySpec)

/-- ITS FALSE NEIGHBOUR: 'it returns false'. Refute it at one input. -/
def polyEmptyWrong : ChangeSpec := { name := "polyEmpty", fn := fun _ => fun
  | [d] => { results := [.lit (.bool false)], args := [d] }
  | _ => none }
def PolyEmptyWrongFalsely : Prop := polyEmptyRow.holds Try.pinned (OpenSpec.ofChange polyEmptyWrong)

/-- 'causewaylaw05.PolyZero': WHATEVER THE INPUT: true; the input reads as it did. -/
def polyZeroSpec : ChangeSpec := { name := "polyZero", fn := fun _ => fun
  | [d1, d2] => { results := [.lit (.bool true)], args := [d1, d2] }
  | _ => none }
def polyZeroRow : OpenClaim := { program := "ytcoggpedpclkaaa", sum := "d050e7108c24bad55ad1c9f78dbe2aaa1caec7496df628e83ff485995bb22cdf", func := "causeway/causewaylaw05.PolyZero", spec := "polyZero", inPlace := ["math/bits.Add64"], apart := false }
def PolyZeroSaid : Prop := polyZeroRow.holds Try.pinned (OpenSpec.ofChange polyZeroSpec)

/-- ITS FALSE NEIGHBOUR: 'it returns false'. Refute it at one input. -/
def polyZeroWrong : ChangeSpec := { name := "polyZero", fn := fun _ => fun
  | [d1, d2] => { results := [.lit (.bool false)], args := [d1, d2] }
  | _ => none }
def PolyZeroWrongFalsely : Prop := polyZeroRow.holds Try.pinned (OpenSpec.ofChange polyZeroWrong)

/-- 'causewaylaw05.PolyCleared': WHATEVER THE INPUT: true; the input reads as it did. -/
def polyClearedSpec : ChangeSpec := { name := "polyCleared", fn := fun _ => fun
  | [d1, d2] => { results := [.lit (.bool true)], args := [d1, d2] }
  | _ => none }
def polyClearedRow : OpenClaim := { program := "ytcoggpedpclkaaa", sum := "d050e7108c24bad55ad1c9f78dbe2aaa1caec7496df628e83ff485995bb22cdf", func := "causeway/causewaylaw05.PolyCleared", spec := "polyCleared", inPlace := ["math/bits.Add64"], apart := false }
def PolyClearedSaid : Prop := polyClearedRow.holds Try.pinned (OpenSpec.ofChange polyClearedSpec)

/-- ITS FALSE NEIGHBOUR: 'it returns false'. Refute it at one input. -/
def polyClearedWrong : ChangeSpec := { name := "polyCleared", fn := fun _ => fun
  | [d1, d2] => { results := [.lit (.bool false)], args := [d1, d2] }
  | _ => none }
def PolyClearedWrongFalsely : Prop := polyClearedRow.holds Try.pinned (OpenSpec.ofChange polyClearedWrong)

/-- 'causewaylaw05.PolyApart': WHATEVER THE INPUT: true; the input reads as it did. -/
def polyApartSpec : ChangeSpec := { name := "polyApart", fn := fun _ => fun
  | [d1, d2, d3] => { results := [.lit (.bool true)], args := [d1, d2, d3] }
  | _ => none }
def polyApartRow : OpenClaim := { program := "ytcoggpedpclkaaa", sum := "d050e7108c24bad55ad1c9f78dbe2aaa1caec7496df628e83ff485995bb22cdf", func := "causeway/causewaylaw05.PolyApart", spec := "polyApart", inPlace := ["math/bits.Add64"], apart := false }
def PolyApartSaid : Prop := polyApartRow.holds Try.pinned (OpenSpec.ofChange polyApartSpec)

/-- ITS FALSE NEIGHBOUR: 'it returns false'. Refute it at one input. -/
def polyApartWrong : ChangeSpec := { name := "polyApart", fn := fun _ => fun
  | [d1, d2, d3] => { results := [.lit (.bool false)], args := [d1, d2, d3] }
  | _ => none }
def PolyApartWrongFalsely : Prop := polyApartRow.holds Try.pinned (OpenSpec.ofChange polyApartWrong)

/-- 'causewaylaw05.PolyOne': WHATEVER THE INPUT: true; the input reads as it did. -/
def polyOneSpec : ChangeSpec := { name := "polyOne", fn := fun _ => fun
  | [d] => { results := [.lit (.bool true)], args := [d] }
  | _ => none }
def polyOneRow : OpenClaim := { program := "ytcoggpedpclkaaa", sum := "d050e7108c24bad55ad1c9f78dbe2aaa1caec7496df628e83ff485995bb22cdf", func := "causeway/causewaylaw05.PolyOne", spec := "polyOne", inPlace := ["math/bits.Add64"], apart := false }
def PolyOneSaid : Prop := polyOneRow.holds Try.pinned (OpenSpec.ofChange polyOneSpec)

/-- ITS FALSE NEIGHBOUR: 'it returns false'. Refute it at one input. -/
def polyOneWrong : ChangeSpec := { name := "polyOne", fn := fun _ => fun
  | [d] => { results := [.lit (.bool false)], args := [d] }
  | _ => none }
def PolyOneWrongFalsely : Prop := polyOneRow.holds Try.pinned (OpenSpec.ofChange polyOneWrong)

/-- 'causewaylaw05.PolyEqual': WHATEVER THE INPUT: true; the input reads as it did. -/
def polyEqualSpec : ChangeSpec := { name := "polyEqual", fn := fun _ => fun
  | [d1, d2, d3] => { results := [.lit (.bool true)], args := [d1, d2, d3] }
  | _ => none }
def polyEqualRow : OpenClaim := { program := "ytcoggpedpclkaaa", sum := "d050e7108c24bad55ad1c9f78dbe2aaa1caec7496df628e83ff485995bb22cdf", func := "causeway/causewaylaw05.PolyEqual", spec := "polyEqual", inPlace := ["math/bits.Add64"], apart := false }
def PolyEqualSaid : Prop := polyEqualRow.holds Try.pinned (OpenSpec.ofChange polyEqualSpec)

/-- ITS FALSE NEIGHBOUR: 'it returns false'. Refute it at one input. -/
def polyEqualWrong : ChangeSpec := { name := "polyEqual", fn := fun _ => fun
  | [d1, d2, d3] => { results := [.lit (.bool false)], args := [d1, d2, d3] }
  | _ => none }
def PolyEqualWrongFalsely : Prop := polyEqualRow.holds Try.pinned (OpenSpec.ofChange polyEqualWrong)

/-- 'causewaylaw05.PolyKnown': WHATEVER THE INPUT: true; the input reads as it did. -/
def polyKnownSpec : ChangeSpec := { name := "polyKnown", fn := fun _ => fun
  | [] => { results := [.lit (.bool true)], args := [] }
  | _ => none }
def polyKnownRow : OpenClaim := { program := "ytcoggpedpclkaaa", sum := "d050e7108c24bad55ad1c9f78dbe2aaa1caec7496df628e83ff485995bb22cdf", func := "causeway/causewaylaw05.PolyKnown", spec := "polyKnown", inPlace := ["math/bits.Add64"], apart := false }
def PolyKnownSaid : Prop := polyKnownRow.holds Try.pinned (OpenSpec.ofChange polyKnownSpec)

/-- ITS FALSE NEIGHBOUR: 'it returns false'. Refute it at one input. -/
def polyKnownWrong : ChangeSpec := { name := "polyKnown", fn := fun _ => fun
  | [] => { results := [.lit (.bool false)], args := [] }
  | _ => none }
def PolyKnownWrongFalsely : Prop := polyKnownRow.holds Try.pinned (OpenSpec.ofChange polyKnownWrong)

/- THE SECOND FORM. 'bulk': how many values and letters a reading holds, each counted each time it is reached (what is shared counts as often as it is met; a slice's spare places count too). A statement '..UptoSaid' is the law's where the arguments, and the package variables that the reading takes, are together of bulk at most 1048576: NARROWER than '..Said'. Prove '..Said' where nothing that the law and all that it calls make is longer than what came in: it says more and counts as full. Else prove '..UptoSaid'. A law counts once. -/
mutual
def uptoBulk {H : Type} : DataW H → Nat
  | .lit (.string bytes) => bytes.length + 1
  | .lit _ => 1
  | .nil => 1
  | .ptr d => uptoBulk d + 1
  | .slice elems spare => uptoBulkAll elems + uptoBulkAll spare + 1
  | .agg parts => uptoBulkAll parts + 1
  | .iface _ d => uptoBulk d + 1
  | .map entries => uptoBulkEntries entries + 1
  | .held _ => 1
def uptoBulkAll {H : Type} : List (DataW H) → Nat
  | [] => 0
  | d :: r => uptoBulk d + uptoBulkAll r
def uptoBulkEntries {H : Type} : List (Lit × DataW H) → Nat
  | [] => 0
  | x :: r => uptoBulkEntry x + uptoBulkEntries r
def uptoBulkEntry {H : Type} : Lit × DataW H → Nat
  | (.string bytes, d) => bytes.length + uptoBulk d + 1
  | (_, d) => uptoBulk d + 1
 end
def uptoSmall : (H : Type) → List (DataW H) → Bool := fun _ ds => decide (uptoBulkAll ds ≤ 1048576)
def OpenSpec.upto (s : _root_.Go.ChangeSpec) : _root_.Go.OpenSpec := { _root_.Go.OpenSpec.ofChange s with cond := some uptoSmall }

/-- 'causewaylaw05.PolyTag', WHERE WHAT IT READS IS OF BULK AT MOST 1048576: true; the input reads as it did. -/
def polyTagUptoRow : OpenClaim := { program := "ytcoggpedpclkaaa", sum := "d050e7108c24bad55ad1c9f78dbe2aaa1caec7496df628e83ff485995bb22cdf", func := "causeway/causewaylaw05.PolyTag", spec := "polyTag", inPlace := ["math/bits.Add64"], apart := false, narrowed := true }
def PolyTagUptoSaid : Prop := polyTagUptoRow.holds Try.pinned (OpenSpec.upto polyTagSpec)

/-- 'causewaylaw05.PolyPieces', WHERE WHAT IT READS IS OF BULK AT MOST 1048576: true; the input reads as it did. -/
def polyPiecesUptoRow : OpenClaim := { program := "ytcoggpedpclkaaa", sum := "d050e7108c24bad55ad1c9f78dbe2aaa1caec7496df628e83ff485995bb22cdf", func := "causeway/causewaylaw05.PolyPieces", spec := "polyPieces", inPlace := ["math/bits.Add64"], apart := false, narrowed := true }
def PolyPiecesUptoSaid : Prop := polyPiecesUptoRow.holds Try.pinned (OpenSpec.upto polyPiecesSpec)

/-- 'causewaylaw05.PolySame', WHERE WHAT IT READS IS OF BULK AT MOST 1048576: true; the input reads as it did. -/
def polySameUptoRow : OpenClaim := { program := "ytcoggpedpclkaaa", sum := "d050e7108c24bad55ad1c9f78dbe2aaa1caec7496df628e83ff485995bb22cdf", func := "causeway/causewaylaw05.PolySame", spec := "polySame", inPlace := ["math/bits.Add64"], apart := false, narrowed := true }
def PolySameUptoSaid : Prop := polySameUptoRow.holds Try.pinned (OpenSpec.upto polySameSpec)

/-- 'causewaylaw05.PolySplit', WHERE WHAT IT READS IS OF BULK AT MOST 1048576: true; the input reads as it did. -/
def polySplitUptoRow : OpenClaim := { program := "ytcoggpedpclkaaa", sum := "d050e7108c24bad55ad1c9f78dbe2aaa1caec7496df628e83ff485995bb22cdf", func := "causeway/causewaylaw05.PolySplit", spec := "polySplit", inPlace := ["math/bits.Add64"], apart := false, narrowed := true }
def PolySplitUptoSaid : Prop := polySplitUptoRow.holds Try.pinned (OpenSpec.upto polySplitSpec)

/-- 'causewaylaw05.PolyEmpty', WHERE WHAT IT READS IS OF BULK AT MOST 1048576: true; the input reads as it did. -/
def polyEmptyUptoRow : OpenClaim := { program := "ytcoggpedpclkaaa", sum := "d050e7108c24bad55ad1c9f78dbe2aaa1caec7496df628e83ff485995bb22cdf", func := "causeway/causewaylaw05.PolyEmpty", spec := "polyEmpty", inPlace := ["math/bits.Add64"], apart := false, narrowed := true }
def PolyEmptyUptoSaid : Prop := polyEmptyUptoRow.holds Try.pinned (OpenSpec.upto polyEmptySpec)

/-- 'causewaylaw05.PolyZero', WHERE WHAT IT READS IS OF BULK AT MOST 1048576: true; the input reads as it did. -/
def polyZeroUptoRow : OpenClaim := { program := "ytcoggpedpclkaaa", sum := "d050e7108c24bad55ad1c9f78dbe2aaa1caec7496df628e83ff485995bb22cdf", func := "causeway/causewaylaw05.PolyZero", spec := "polyZero", inPlace := ["math/bits.Add64"], apart := false, narrowed := true }
def PolyZeroUptoSaid : Prop := polyZeroUptoRow.holds Try.pinned (OpenSpec.upto polyZeroSpec)

/-- 'causewaylaw05.PolyCleared', WHERE WHAT IT READS IS OF BULK AT MOST 1048576: true; the input reads as it did. -/
def polyClearedUptoRow : OpenClaim := { program := "ytcoggpedpclkaaa", sum := "d050e7108c24bad55ad1c9f78dbe2aaa1caec7496df628e83ff485995bb22cdf", func := "causeway/causewaylaw05.PolyCleared", spec := "polyCleared", inPlace := ["math/bits.Add64"], apart := false, narrowed := true }
def PolyClearedUptoSaid : Prop := polyClearedUptoRow.holds Try.pinned (OpenSpec.upto polyClearedSpec)

/-- 'causewaylaw05.PolyApart', WHERE WHAT IT READS IS OF BULK AT MOST 1048576: true; the input reads as it did. -/
def polyApartUptoRow : OpenClaim := { program := "ytcoggpedpclkaaa", sum := "d050e7108c24bad55ad1c9f78dbe2aaa1caec7496df628e83ff485995bb22cdf", func := "causeway/causewaylaw05.PolyApart", spec := "polyApart", inPlace := ["math/bits.Add64"], apart := false, narrowed := true }
def PolyApartUptoSaid : Prop := polyApartUptoRow.holds Try.pinned (OpenSpec.upto polyApartSpec)

/-- 'causewaylaw05.PolyOne', WHERE WHAT IT READS IS OF BULK AT MOST 1048576: true; the input reads as it did. -/
def polyOneUptoRow : OpenClaim := { program := "ytcoggpedpclkaaa", sum := "d050e7108c24bad55ad1c9f78dbe2aaa1caec7496df628e83ff485995bb22cdf", func := "causeway/causewaylaw05.PolyOne", spec := "polyOne", inPlace := ["math/bits.Add64"], apart := false, narrowed := true }
def PolyOneUptoSaid : Prop := polyOneUptoRow.holds Try.pinned (OpenSpec.upto polyOneSpec)

/-- 'causewaylaw05.PolyEqual', WHERE WHAT IT READS IS OF BULK AT MOST 1048576: true; the input reads as it did. -/
def polyEqualUptoRow : OpenClaim := { program := "ytcoggpedpclkaaa", sum := "d050e7108c24bad55ad1c9f78dbe2aaa1caec7496df628e83ff485995bb22cdf", func := "causeway/causewaylaw05.PolyEqual", spec := "polyEqual", inPlace := ["math/bits.Add64"], apart := false, narrowed := true }
def PolyEqualUptoSaid : Prop := polyEqualUptoRow.holds Try.pinned (OpenSpec.upto polyEqualSpec)

/-- 'causewaylaw05.PolyKnown', WHERE WHAT IT READS IS OF BULK AT MOST 1048576: true; the input reads as it did. -/
def polyKnownUptoRow : OpenClaim := { program := "ytcoggpedpclkaaa", sum := "d050e7108c24bad55ad1c9f78dbe2aaa1caec7496df628e83ff485995bb22cdf", func := "causeway/causewaylaw05.PolyKnown", spec := "polyKnown", inPlace := ["math/bits.Add64"], apart := false, narrowed := true }
def PolyKnownUptoSaid : Prop := polyKnownUptoRow.holds Try.pinned (OpenSpec.upto polyKnownSpec)

end Rows
end Go.Proofs.Ytcoggpedpclkaaa
