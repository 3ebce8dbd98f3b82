/- Arguments that are arrays of thirty-two bytes, of two ints, opened. Lemmas alone. -/
import Derived.Test.YtebknlhooijkcaaYk
namespace Go.Proofs.Ytebknlhooijkcaa
set_option linter.unusedSimpArgs false
set_option linter.unusedVariables false
open Go.ChangeShapes Go.WideShapes Go.ChangeAt Go.RowKit

theorem open_a32 {H : Type} {enc : TypeId × Value → H} {W : World} {base b0 : Nat} {sp : Nat → Bool} {held : Bool} {r : Reach} {v : Value} {d : DataW H} {ps : List MemPlace}
    (hv : Value.okWide Try.prog W r b0 24 v) (h : DataW.Trod enc Try.prog W base sp held 24 v d ps) : ∃ k : List Int, v = .agg (vs .u8 k) ∧ k.length = 32 ∧ Bys k := by
  obtain ⟨l, h1, h2, h3⟩ := open_ints_arr Try.underlying24 Try.underlying5 (by kernel_rfl) (by kernel_rfl) hv h
  exact ⟨l, h1, h2, fun x hx => wf_u8 (h3 x hx)⟩
theorem open_i2 {H : Type} {enc : TypeId × Value → H} {W : World} {base b0 : Nat} {sp : Nat → Bool} {held : Bool} {r : Reach} {v : Value} {d : DataW H} {ps : List MemPlace}
    (hv : Value.okWide Try.prog W r b0 38 v) (h : DataW.Trod enc Try.prog W base sp held 38 v d ps) : ∃ k : List Int, v = .agg (vs .i64 k) ∧ k.length = 2 ∧ ∀ x ∈ k, -9223372036854775808 ≤ x ∧ x ≤ 9223372036854775807 := by
  obtain ⟨l, h1, h2, h3⟩ := open_ints_arr Try.underlying38 Try.underlying3 (by kernel_rfl) (by kernel_rfl) hv h
  exact ⟨l, h1, h2, fun x hx => wf_i64 (h3 x hx)⟩
end Go.Proofs.Ytebknlhooijkcaa
