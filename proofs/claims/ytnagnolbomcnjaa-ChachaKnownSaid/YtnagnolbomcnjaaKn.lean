/- What ChachaKnown's examples come to: reckoned. No condition. -/
import Derived.Test.YtnagnolbomcnjaaBr
namespace Go.Proofs.Ytnagnolbomcnjaa
set_option linter.unusedSimpArgs false
set_option linter.unusedVariables false
set_option linter.unusedVariables false
open Go.ChangeShapes Go.WideShapes Go.ChangeAt Go.RowKit

def keyL : List Int := [0, 1, 2, 3, 4, 5, 6, 7, 8, 9, 10, 11, 12, 13, 14, 15, 16, 17, 18, 19, 20, 21, 22, 23, 24, 25, 26, 27, 28, 29, 30, 31]
def n1L : List Int := [0, 0, 0, 9, 0, 0, 0, 74, 0, 0, 0, 0]
def n2L : List Int := [0, 0, 0, 0, 0, 0, 0, 74, 0, 0, 0, 0]
def txL : List Int := [76, 97, 100, 105, 101, 115, 32, 97, 110, 100, 32, 71, 101, 110, 116, 108, 101, 109, 101, 110, 32, 111, 102, 32, 116, 104, 101, 32, 99, 108, 97, 115, 115, 32, 111, 102, 32, 39, 57, 57, 58, 32, 73, 102, 32, 73, 32, 99, 111, 117, 108, 100, 32, 111, 102, 102, 101, 114, 32, 121, 111, 117, 32, 111, 110, 108, 121, 32, 111, 110, 101, 32, 116, 105, 112, 32, 102, 111, 114, 32, 116, 104, 101, 32, 102, 117, 116, 117, 114, 101, 44, 32, 115, 117, 110, 115, 99, 114, 101, 101, 110, 32, 119, 111, 117, 108, 100, 32, 98, 101, 32, 105, 116, 46]
set_option maxRecDepth 100000 in
theorem kn16 : (bk64 keyL 1 n1L).take 16 = [16, 241, 231, 228, 209, 59, 89, 21, 80, 15, 221, 31, 163, 32, 113, 196] := by decide +kernel
set_option maxRecDepth 100000 in
theorem kn4 : (bk64 keyL 1 n1L).drop 60 = [162, 80, 60, 78] := by decide +kernel
set_option maxRecDepth 100000 in
theorem kn8 : (xo keyL 1 n2L txL).take 8 = [110, 46, 53, 154, 37, 104, 249, 128] := by
  have e : (xo keyL 1 n2L txL).take 8 = (List.range 8).map fun j => x8 (txL.getD j 0) (ks keyL 1 n2L j) := by
    rw [xo, ← List.map_take]
    rfl
  rw [e]
  decide +kernel
theorem xo_block {k : List Int} {c : Int} {n : List Int} (hk : k.length = 32) (bk : Bys k) (hc : Wd c) (hn : n.length = 12) (bn : Bys n) : xo k c n (List.replicate 64 0) = bk64 k c n := by
  have hl := bk64_length hk bk hc hn bn
  apply List.ext_getElem?
  intro j
  by_cases h : j < 64
  · rw [xo_noughts h, getD_some (l := bk64 k c n) (by omega)]
    unfold ks
    rw [show j / 64 = 0 by omega, show j % 64 = j by omega, sm_zero hc]
  · rw [List.getElem?_eq_none (by rw [xo_length]; simp; omega), List.getElem?_eq_none (by omega)]
end Go.Proofs.Ytnagnolbomcnjaa
