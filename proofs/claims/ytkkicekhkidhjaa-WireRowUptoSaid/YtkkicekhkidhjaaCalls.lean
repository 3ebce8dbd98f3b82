/- A slice of the law's calls that came in, opened for a walk. Lemmas alone. -/
import Derived.Test.YtkkicekhkidhjaaOpen
import Derived.Test.YtkkicekhkidhjaaGrowsW
import Derived.Deep.Slices
namespace Go.Proofs.Ytkkicekhkidhjaa
set_option linter.unusedSimpArgs false
set_option linter.unusedVariables false
open Go.ChangeShapes Go.WideShapes Go.ChangeAt Go.RowKit

theorem Try.cells29 : Try.prog.cellsOf 29 = 4 := by kernel_rfl
theorem Try.cells3 : Try.prog.cellsOf 3 = 1 := by kernel_rfl
theorem Try.cells27 : Try.prog.cellsOf 27 = 1 := by kernel_rfl

/-- A cell that reads as a slice of bytes. -/
theorem open_sl_cell {H : Type} {enc : TypeId × Value → H} {W : World} {v : Value} {fuel : Nat} {d : DataW H} {ps : List MemPlace} (hf : DataW.trod enc Try.prog W 0 (fun _ => true) true fuel 27 [v] = some (d, ps)) (hlt : ∀ x ∈ ps, x.block < W.heap.size) :
    ∃ A n c g l, v = .slice A n c ∧ Sl W g (.slice A n c) l ∧ (l ≠ [] → g < W.heap.size) := by
  rcases open_ints Try.underlying27 Try.underlying5 Try.cells5 hf with ⟨hcs, hx⟩ | ⟨a, n, c, zs, hcs, _, hl, hm, hz, hx, hcell, hwz⟩
  · obtain rfl : v = .slice none 0 0 := by simpa using hcs
    exact ⟨none, 0, 0, 0, [], rfl, Sl.nil _ _, fun h => absurd rfl h⟩
  · obtain rfl : v = .slice (some a) n c := by simpa using hcs
    simp only [Prod.mk.injEq] at hx
    obtain ⟨rfl, rfl⟩ := hx
    simp only [if_true] at hz
    have hb : Bys (zs.take n) := fun b hb => wf_u8 (hwz b (List.mem_of_mem_take hb))
    have hlen : (zs.take n).length = n := by rw [List.length_take]; omega
    by_cases h0 : n = 0
    · subst h0
      exact ⟨some a, 0, c, 0, [], rfl, ⟨Bys.nil, _, c, rfl, by simp, hm, fun h => absurd rfl h⟩, fun h => absurd rfl h⟩
    · obtain ⟨b, off, spot⟩ := a
      have hspot : spot = none := by simpa [Addr.add] using World.cell?_spot (hcell 0 (by omega))
      subst hspot
      have hbW : b < W.heap.size := hlt (.cell b off) (MemPlace.mem_row.2 ⟨0, by omega, by simp⟩)
      refine ⟨_, n, c, b, zs.take n, rfl, ⟨hb, _, c, by rw [hlen], by omega, hm, fun _ => ⟨off, rfl, hbW, fun j x hj => ?_⟩⟩, fun _ => hbW⟩
      have hjn : j < n := by
        rcases Nat.lt_or_ge j n with h | h
        · exact h
        · rw [List.getElem?_eq_none (by omega)] at hj; cases hj
      have := hcell j (by omega)
      rw [Addr_add_none] at this
      rw [this]
      rw [List.getElem?_take, if_pos hjn] at hj
      rw [List.getD_eq_getElem?_getD, hj]
      rfl

theorem open_calls {H : Type} {enc : TypeId × Value → H} {W : World} {base : Nat} {v : Value} {d : DataW H} {ps : List MemPlace} (hv : Value.okWide Try.prog W .any base 22 v) (h : DataW.Trod enc Try.prog W 0 (fun _ => true) true 22 v d ps) (hlt : ∀ x ∈ ps, x.block < W.heap.size) :
    ∃ A len cap, v = .slice A len cap ∧ len ≤ maxLen ∧ (0 < len → ∃ b off, A = some ⟨b, off, none⟩ ∧ ∀ i, i < len → ∃ what n size A m c g data, CallAt W b off i what n size A m c g data) := by
  obtain ⟨A, len, cap, rfl⟩ := okWide_slice Try.underlying22 hv
  obtain ⟨fuel, hf⟩ := h
  rcases Go.Deep.open_slice Try.underlying22 hf with ⟨hcs, hx⟩ | ⟨a, len', cap', m, n, D, Pl, hcs, _, hl, hm, hmm, hx, hel⟩
  · simp [Value.cells] at hcs
    obtain ⟨rfl, rfl, rfl⟩ := hcs
    exact ⟨none, 0, 0, rfl, by simp, fun h => absurd h (Nat.lt_irrefl _)⟩
  · simp [Value.cells] at hcs
    obtain ⟨rfl, rfl, rfl⟩ := hcs
    simp only [if_true] at hmm
    simp only [Prod.mk.injEq] at hx
    obtain ⟨rfl, rfl⟩ := hx
    subst hmm
    rw [Try.cells29] at hel
    refine ⟨_, len, m, rfl, by omega, fun h0 => ?_⟩
    obtain ⟨b, off, spot⟩ := a
    have hspot : spot = none := by
      obtain ⟨cs', h1, _⟩ := hel 0 (by omega)
      obtain ⟨_, hlen, hcell⟩ := World.cells?_some h1
      match cs', hlen with
      | [v0, v1, v2, v3], _ =>
        have := hcell 0 (by omega)
        simpa [Addr.add] using World.cell?_spot this
    subst hspot
    refine ⟨b, off, rfl, fun i hi => ?_⟩
    obtain ⟨cs', h1, h2⟩ := hel i (by omega)
    obtain ⟨_, hlen, hcell⟩ := World.cells?_some h1
    obtain ⟨xs, k, hk, hxy, _, hxl, hfl⟩ := DataW.trod_struct Try.underlying29 h2
    match xs, hxl, cs', hlen with
    | [y0, y1, y2, y3], _, [v0, v1, v2, v3], _ =>
      have g0 : DataW.trod enc Try.prog W 0 (fun _ => true) true k 3 [v0] = some y0 := by have := hfl 0 _ rfl; simpa [Try.cells3] using this
      have g1 : DataW.trod enc Try.prog W 0 (fun _ => true) true k 3 [v1] = some y1 := by have := hfl 1 _ rfl; simpa [Try.cells3] using this
      have g2 : DataW.trod enc Try.prog W 0 (fun _ => true) true k 3 [v2] = some y2 := by have := hfl 2 _ rfl; simpa [Try.cells3] using this
      have g3 : DataW.trod enc Try.prog W 0 (fun _ => true) true k 27 [v3] = some (y3.1, y3.2) := by have := hfl 3 _ rfl; simpa [Try.cells27] using this
      obtain ⟨what, e0, _, w0⟩ := DataW.trod_int Try.underlying3 g0
      obtain ⟨vn, e1, _, w1⟩ := DataW.trod_int Try.underlying3 g1
      obtain ⟨size, e2, _, w2⟩ := DataW.trod_int Try.underlying3 g2
      have hpl : ∀ x ∈ y3.2, x.block < W.heap.size := fun x hx => hlt x (List.mem_append_right _ (List.mem_flatMap.2 ⟨i, List.mem_range.2 (by omega), by
        have e : Pl i = _ := congrArg Prod.snd hxy
        rw [e]
        exact List.mem_flatMap.2 ⟨y3, by simp, hx⟩⟩))
      obtain ⟨A, m', c, g, data, e3, hs, hg⟩ := open_sl_cell g3 hpl
      have q0 := hcell 0 (by omega)
      have q1 := hcell 1 (by omega)
      have q2 := hcell 2 (by omega)
      have q3 := hcell 3 (by omega)
      simp only [Addr_add_none] at q0 q1 q2 q3
      obtain rfl : v0 = _ := by simpa using e0
      obtain rfl : v1 = _ := by simpa using e1
      obtain rfl : v2 = _ := by simpa using e2
      subst e3
      exact ⟨what, vn, size, A, m', c, g, data, by simpa using q0, by simpa using q1, by simpa using q2, by simpa using q3, hs, (wf_i64 w0).1, (wf_i64 w0).2, (wf_i64 w1).2, (wf_i64 w2).1, (wf_i64 w2).2, hg⟩
end Go.Proofs.Ytkkicekhkidhjaa
