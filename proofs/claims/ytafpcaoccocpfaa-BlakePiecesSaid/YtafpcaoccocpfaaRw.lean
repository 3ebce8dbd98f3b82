/- A slice of slices that came in, opened; a cell that holds a slice, read. Lemmas alone. -/
import Derived.Test.YtafpcaoccocpfaaPo
import Derived.Deep.Slices
namespace Go.Proofs.Ytafpcaoccocpfaa
set_option linter.unusedSimpArgs false
set_option linter.unusedVariables false
open Go.ChangeShapes Go.WideShapes Go.ChangeAt Go.RowKit

theorem Try.cells22 : Try.prog.cellsOf 22 = 1 := by kernel_rfl
structure RowAt (W : World) (b off i : Nat) (A : Option Addr) (m c g : Nat) (data : List Int) : Prop where
  c0 : W.cell? ⟨b, off + i, none⟩ = some (.slice A m c)
  sl : Sl W g (.slice A m c) data
  lt : data ≠ [] → g < W.heap.size
theorem RowAt.keep {W W' : World} {b off i : Nat} {A : Option Addr} {m c g : Nat} {data : List Int} (h : RowAt W b off i A m c g data) (hf : Fr (fun _ => False) W W') : RowAt W' b off i A m c g data := by
  have hb : b < W.heap.size := World.block_lt_of_cell? _ _ h.c0
  exact ⟨(World.cell?_of_block (w := W) (hf.block b hb (fun x => x))).trans h.c0, h.sl.fr hf (fun _ x => x), fun hd => Nat.lt_of_lt_of_le (h.lt hd) hf.size⟩

theorem Sl.lt {w : World} {g : Nat} {v : Value} {l : List Int} (h : Sl w g v l) (hl : l ≠ []) : g < w.heap.size := by
  obtain ⟨_, A, c, _, _, _, hx⟩ := h
  obtain ⟨o, _, hg, _⟩ := hx hl
  exact hg
theorem Sl.fr' {S : Nat → Prop} {w w' : World} {g : Nat} {v : Value} {l : List Int} (h : Sl w g v l) (hf : Fr S w w') (hn : l ≠ [] → ¬ S g) : Sl w' g v l := by
  by_cases hl : l = []
  · subst hl
    obtain ⟨hb, A, c, e, h1, h2, _⟩ := h
    exact ⟨hb, A, c, e, h1, h2, fun h => absurd rfl h⟩
  · exact h.fr hf (fun _ => hn hl)

/-- A cell that reads as a slice of bytes. -/
theorem open_sl_cell {H : Type} {enc : TypeId × Value → H} {W : World} {v : Value} {fuel : Nat} {d : DataW H} {ps : List MemPlace} (hf : DataW.trod enc Try.prog W 0 (fun _ => true) true fuel 22 [v] = some (d, ps)) (hlt : ∀ x ∈ ps, x.block < W.heap.size) :
    ∃ A n c g l, v = .slice A n c ∧ Sl W g (.slice A n c) l ∧ (l ≠ [] → g < W.heap.size) := by
  rcases open_ints Try.underlying22 Try.underlying5 Try.cells5 hf with ⟨hcs, hx⟩ | ⟨a, n, c, zs, hcs, _, hl, hm, hz, hx, hcell, hwz⟩
  · obtain rfl : v = .slice none 0 0 := by simpa using hcs
    exact ⟨none, 0, 0, 0, [], rfl, Sl.nil _ _, fun h => absurd rfl h⟩
  · obtain rfl : v = .slice (some a) n c := by simpa using hcs
    simp only [Prod.mk.injEq] at hx
    obtain ⟨rfl, rfl⟩ := hx
    simp only [if_true] at hz
    have hb : Bys (zs.take n) := fun b hb => wf_u8 (hwz b (List.mem_of_mem_take hb))
    have hlen : (zs.take n).length = n := by rw [List.length_take]; omega
    by_cases h0 : n = 0
    · subst h0
      exact ⟨some a, 0, c, 0, [], rfl, ⟨Bys.nil, _, c, rfl, by simp, hm, fun h => absurd rfl h⟩, fun h => absurd rfl h⟩
    · obtain ⟨b, off, spot⟩ := a
      have hspot : spot = none := by simpa [Addr.add] using World.cell?_spot (hcell 0 (by omega))
      subst hspot
      have hbW : b < W.heap.size := hlt (.cell b off) (MemPlace.mem_row.2 ⟨0, by omega, by simp⟩)
      refine ⟨_, n, c, b, zs.take n, rfl, ⟨hb, _, c, by rw [hlen], by omega, hm, fun _ => ⟨off, rfl, hbW, fun j x hj => ?_⟩⟩, fun _ => hbW⟩
      have hjn : j < n := by
        rcases Nat.lt_or_ge j n with h | h
        · exact h
        · rw [List.getElem?_eq_none (by omega)] at hj; cases hj
      have := hcell j (by omega)
      rw [Addr_add_none] at this
      rw [this]
      rw [List.getElem?_take, if_pos hjn] at hj
      rw [List.getD_eq_getElem?_getD, hj]
      rfl
theorem open_rows {H : Type} {enc : TypeId × Value → H} {W : World} {base : Nat} {v : Value} {d : DataW H} {ps : List MemPlace} (hv : Value.okWide Try.prog W .any base 33 v) (h : DataW.Trod enc Try.prog W 0 (fun _ => true) true 33 v d ps) (hlt : ∀ x ∈ ps, x.block < W.heap.size) :
    ∃ A len cap, v = .slice A len cap ∧ (len = 0 ∨ ∃ elems spare, d = .slice elems spare ∧ len ≤ elems.length + spare.length) ∧
      (0 < len → ∃ (b off : Nat) (D : Nat → List Int), A = some ⟨b, off, none⟩ ∧ ∀ i, i < len → ∃ A m c g, RowAt W b off i A m c g (D i)) := by
  obtain ⟨A, len, cap, rfl⟩ := okWide_slice Try.underlying33 hv
  obtain ⟨fuel, hf⟩ := h
  rcases Go.Deep.open_slice1 Try.underlying33 Try.cells22 hf with ⟨hcs, hx⟩ | ⟨a, len', cap', m, n, V, D, Pl, hcs, _, hl, hm, hmm, hx, hel⟩
  · simp [Value.cells] at hcs
    obtain ⟨rfl, rfl, rfl⟩ := hcs
    exact ⟨none, 0, 0, rfl, .inl rfl, fun h => absurd h (Nat.lt_irrefl _)⟩
  · simp [Value.cells] at hcs
    obtain ⟨rfl, rfl, rfl⟩ := hcs
    simp only [if_true] at hmm
    simp only [Prod.mk.injEq] at hx
    obtain ⟨rfl, rfl⟩ := hx
    subst hmm
    refine ⟨_, len, m, rfl, .inr ⟨_, _, rfl, by simp⟩, fun h0 => ?_⟩
    obtain ⟨b, off, spot⟩ := a
    have hspot : spot = none := by
      have := (hel 0 (by omega)).1
      simpa [Addr.add] using World.cell?_spot this
    subst hspot
    have each : ∀ i, i < len → ∃ l A m c g, RowAt W b off i A m c g l := by
      intro i hi
      obtain ⟨h1, h2⟩ := hel i (by omega)
      have hpl : ∀ x ∈ Pl i, x.block < W.heap.size := fun x hx => hlt x (List.mem_append_right _ (List.mem_flatMap.2 ⟨i, List.mem_range.2 (by omega), hx⟩))
      obtain ⟨A, m', c, g, data, e3, hs, hg⟩ := open_sl_cell h2 hpl
      rw [Addr_add_none, e3] at h1
      exact ⟨data, A, m', c, g, h1, hs, hg⟩
    refine ⟨b, off, fun i => if h : i < len then (each i h).choose else [], rfl, fun i hi => ?_⟩
    have := (each i hi).choose_spec
    simpa [hi] using this


section
variable {a : Act} {o : Oper} {C : World → Prop} {K : Act → Prop}
/-- A slice is loaded from its cell. -/
theorem quiet_sl (x : Operand) (ho : o.op = .load 22 x) (q i : Nat) (hx : a.eval x = .pointer (some ⟨q, i, none⟩)) (A : Option Addr) (m c : Nat) (hg : ∀ w, C w → w.cell? ⟨q, i, none⟩ = some (.slice A m c))
    (hk : K (a.put o.dst (.slice A m c))) : o.quiet Try.prog a C K := by
  refine quiet_run _ (fun w hw => ?_) hk
  have hc := hg w hw
  unfold execOp
  simp [ho, hx, Instr.loadAt, Instr.sureAddr, loadVar, isAgg, run_underlying Try.underlying22, hc, Sem.run_bind, Sem.run_pure, Result.andThen_ok]
end
end Go.Proofs.Ytafpcaoccocpfaa
