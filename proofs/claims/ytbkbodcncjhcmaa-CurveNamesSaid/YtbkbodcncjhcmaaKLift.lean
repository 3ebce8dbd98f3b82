/- A key that came in, opened. Lemma alone. -/
import Derived.Test.YtbkbodcncjhcmaaLift
import Derived.Test.YtbkbodcncjhcmaaRPub
namespace Go.Proofs.Ytbkbodcncjhcmaa
set_option linter.unusedSimpArgs false
set_option linter.unusedVariables false
open Go.ChangeShapes Go.WideShapes Go.ChangeAt Go.RowKit
theorem open_key {H : Type} {enc : TypeId × Value → H} {W : World} {base b0 : Nat} {sp : Nat → Bool} {held : Bool} {r : Reach} {v : Value} {d : DataW H} {ps : List MemPlace}
    (hv : Value.okWide Try.prog W r b0 23 v) (h : DataW.Trod enc Try.prog W base sp held 23 v d ps) : ∃ l : List Int, v = .agg (vs .u8 l) ∧ l.length = 32 ∧ Bys l := by
  obtain ⟨l, h1, h2, h3⟩ := open_ints_arr Try.underlying23 Try.underlying5 (by kernel_rfl) (by kernel_rfl) hv h
  exact ⟨l, h1, h2, fun x hx => bounds_u8 (h3 x hx)⟩
end Go.Proofs.Ytbkbodcncjhcmaa
