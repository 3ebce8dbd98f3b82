/- A slice of bytes that came in, opened for a walk. Lemmas alone. -/
import Derived.Test.YtkkicekhkidhjaaLift
import Derived.SizedLaws
namespace Go.Proofs.Ytkkicekhkidhjaa
set_option linter.unusedSimpArgs false
set_option linter.unusedVariables false
open Go.ChangeShapes Go.WideShapes Go.ChangeAt Go.RowKit

theorem Try.cells5 : Try.prog.cellsOf 5 = 1 := by kernel_rfl

theorem wf_u8 {n : Int} (h : (Lit.int .u8 n).wf = true) : 0 ≤ n ∧ n ≤ 255 := by simpa [Lit.wf, IntKind.min, IntKind.max, IntKind.signed, IntKind.bits] using h
theorem wf_i64 {n : Int} (h : (Lit.int .i64 n).wf = true) : -9223372036854775808 ≤ n ∧ n ≤ 9223372036854775807 := by simpa [Lit.wf, IntKind.min, IntKind.max, IntKind.signed, IntKind.bits] using h

theorem open_sl {H : Type} {enc : TypeId × Value → H} {W : World} {base : Nat} {v : Value} {d : DataW H} {ps : List MemPlace} (hv : Value.okWide Try.prog W .any base 27 v) (h : DataW.Trod enc Try.prog W 0 (fun _ => true) true 27 v d ps) (hlt : ∀ x ∈ ps, x.block < W.heap.size) :
    ∃ A n c g l, v = .slice A n c ∧ Sl W g (.slice A n c) l ∧ (l ≠ [] → g < W.heap.size) := by
  obtain ⟨A, n, c, rfl⟩ := okWide_slice Try.underlying27 hv
  obtain ⟨fuel, hf⟩ := h
  rcases open_ints Try.underlying27 Try.underlying5 Try.cells5 hf with ⟨hcs, hx⟩ | ⟨a, len', cap', zs, hcs, _, hl, hm, hz, hx, hcell, hwz⟩
  · simp [Value.cells] at hcs
    obtain ⟨rfl, rfl, rfl⟩ := hcs
    exact ⟨none, 0, 0, 0, [], rfl, Sl.nil _ _, fun h => absurd rfl h⟩
  · simp [Value.cells] at hcs
    obtain ⟨rfl, rfl, rfl⟩ := hcs
    simp only [Prod.mk.injEq] at hx
    obtain ⟨rfl, rfl⟩ := hx
    simp only [if_true] at hz
    have hb : Bys (zs.take n) := fun b hb => wf_u8 (hwz b (List.mem_of_mem_take hb))
    have hlen : (zs.take n).length = n := by rw [List.length_take]; omega
    by_cases h0 : n = 0
    · subst h0
      exact ⟨some a, 0, c, 0, [], rfl, ⟨Bys.nil, _, c, rfl, by simp, hm, fun h => absurd rfl h⟩, fun h => absurd rfl h⟩
    · obtain ⟨b, off, spot⟩ := a
      have hspot : spot = none := by simpa [Addr.add] using World.cell?_spot (hcell 0 (by omega))
      subst hspot
      have hbW : b < W.heap.size := hlt (.cell b off) (MemPlace.mem_row.2 ⟨0, by omega, by simp⟩)
      refine ⟨_, n, c, b, zs.take n, rfl, ⟨hb, _, c, by rw [hlen], by omega, hm, fun _ => ⟨off, rfl, hbW, fun j x hj => ?_⟩⟩, fun _ => hbW⟩
      have hjn : j < n := by
        rcases Nat.lt_or_ge j n with h | h
        · exact h
        · rw [List.getElem?_eq_none (by omega)] at hj; cases hj
      have := hcell j (by omega)
      rw [Addr_add_none] at this
      rw [this]
      rw [List.getElem?_take, if_pos hjn] at hj
      rw [List.getD_eq_getElem?_getD, hj]
      rfl
end Go.Proofs.Ytkkicekhkidhjaa
