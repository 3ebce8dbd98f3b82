/- Arguments that are keys, arrays of sixteenP bytes, bytes, ints, opened. Lemmas alone. -/
import Derived.Test.YtbafppdmlhogbaaK
import Derived.Test.YtbafppdmlhogbaaSp
namespace Go.Proofs.Ytbafppdmlhogbaa
set_option linter.unusedSimpArgs false
set_option linter.unusedVariables false
open Go.ChangeShapes Go.WideShapes Go.ChangeAt Go.RowKit

theorem open_key {H : Type} {enc : TypeId × Value → H} {W : World} {base b0 : Nat} {sp : Nat → Bool} {held : Bool} {r : Reach} {v : Value} {d : DataW H} {ps : List MemPlace}
    (hv : Value.okWide Try.prog W r b0 28 v) (h : DataW.Trod enc Try.prog W base sp held 28 v d ps) : ∃ k : List Int, v = .agg (vs .u8 k) ∧ k.length = 32 ∧ Bys k := by
  obtain ⟨l, h1, h2, h3⟩ := open_ints_arr Try.underlying28 Try.underlying5 (by kernel_rfl) (by kernel_rfl) hv h
  exact ⟨l, h1, h2, fun x hx => wf_u8 (h3 x hx)⟩
theorem open_a16 {H : Type} {enc : TypeId × Value → H} {W : World} {base b0 : Nat} {sp : Nat → Bool} {held : Bool} {r : Reach} {v : Value} {d : DataW H} {ps : List MemPlace}
    (hv : Value.okWide Try.prog W r b0 38 v) (h : DataW.Trod enc Try.prog W base sp held 38 v d ps) : ∃ k : List Int, v = .agg (vs .u8 k) ∧ k.length = 16 ∧ Bys k := by
  obtain ⟨l, h1, h2, h3⟩ := open_ints_arr Try.underlying38 Try.underlying5 (by kernel_rfl) (by kernel_rfl) hv h
  exact ⟨l, h1, h2, fun x hx => wf_u8 (h3 x hx)⟩
theorem keys_info {k : List Int} (hk : k.length = 32) : (Try.prog.info? 28).map (·.size) = some (vs .u8 k).size := by rw [vs_size, hk]; exact info23
theorem tags_info {k : List Int} (hk : k.length = 16) : (Try.prog.info? 38).map (·.size) = some (vs .u8 k).size := by rw [vs_size, hk]; exact info26
end Go.Proofs.Ytbafppdmlhogbaa
