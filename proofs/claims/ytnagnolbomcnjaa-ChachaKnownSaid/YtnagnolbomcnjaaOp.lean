/- Arguments that are four words, or a key, a counter and a nonce, opened. Lemmas alone. -/
import Derived.Test.YtnagnolbomcnjaaKL
import Derived.Test.YtnagnolbomcnjaaBk
import Derived.Deep.Strs
namespace Go.Proofs.Ytnagnolbomcnjaa
set_option linter.unusedSimpArgs false
set_option linter.unusedVariables false
open Go.ChangeShapes Go.WideShapes Go.ChangeAt Go.RowKit

theorem four {l : List Int} (h : l.length = 4) : ∃ a b c d, l = [a, b, c, d] := by
  match l, h with
  | [a, b, c, d], _ => exact ⟨a, b, c, d, rfl⟩
theorem open_q4 {H : Type} {enc : TypeId × Value → H} {W : World} {base b0 : Nat} {sp : Nat → Bool} {held : Bool} {r : Reach} {v : Value} {d : DataW H} {ps : List MemPlace}
    (hv : Value.okWide Try.prog W r b0 23 v) (h : DataW.Trod enc Try.prog W base sp held 23 v d ps) : ∃ x y z t : Int, v = .agg (vs .u32 [x, y, z, t]) ∧ Wd x ∧ Wd y ∧ Wd z ∧ Wd t := by
  obtain ⟨l, h1, h2, h3⟩ := open_ints_arr Try.underlying23 Try.underlying22 (by kernel_rfl) (by kernel_rfl) hv h
  obtain ⟨x, y, z, t, rfl⟩ := four h2
  exact ⟨x, y, z, t, h1, bounds_u32 (h3 x (by simp)), bounds_u32 (h3 y (by simp)), bounds_u32 (h3 z (by simp)), bounds_u32 (h3 t (by simp))⟩

/-- A key, a counter and a nonce. -/
def bg (k : List Int) (c : Int) (n : List Int) : Array Value := ((k.map (Value.int .u8)) ++ (Value.int .u32 c :: n.map (Value.int .u8))).toArray
theorem trod_ints {H : Type} {enc : TypeId × Value → H} {P : Program} {W : World} {base : Nat} {sp : Nat → Bool} {held : Bool} {t e : TypeId} {n fuel : Nat} {k : IntKind} {cs : List Value} {x : DataW H × List MemPlace}
    (ht : P.underlying t = some (.array n e)) (he : P.underlying e = some (.int k)) (hce : P.cellsOf e = 1) (hl : cs.length = n)
    (h : DataW.trod enc P W base sp held fuel t cs = some x) : ∃ l : List Int, cs = l.map (Value.int k) ∧ l.length = n ∧ ∀ x ∈ l, (Lit.int k x).wf = true := by
  obtain ⟨xs, m, _, _, _, hl', hel⟩ := DataW.trod_array ht h
  simp only [hce, Nat.mul_one] at hel
  have hcell : ∀ i (hi : i < cs.length), ∃ x, cs[i] = .int k x ∧ (Lit.int k x).wf = true := by
    intro i hi
    have h1 := hel i (by omega)
    rw [List.getElem?_eq_getElem (by omega)] at h1
    obtain ⟨x, ex, _, wx⟩ := DataW.trod_int he h1
    rw [List.drop_eq_getElem_cons hi] at ex
    simp only [List.take_succ_cons, List.take_zero, List.cons.injEq, and_true] at ex
    exact ⟨x, ex, wx⟩
  refine ⟨cs.map intOf, ?_, by simp; omega, ?_⟩
  · apply List.ext_getElem
    · simp
    · intro i h1 h2
      obtain ⟨x, ex, _⟩ := hcell i h1
      simp [ex, intOf]
  · intro x hx
    simp only [List.mem_map] at hx
    obtain ⟨c, hc, rfl⟩ := hx
    obtain ⟨i, hi, rfl⟩ := List.mem_iff_getElem.1 hc
    obtain ⟨x, ex, wx⟩ := hcell i hi
    rw [ex]
    exact wx
theorem open_bg {H : Type} {enc : TypeId × Value → H} {W : World} {base b0 : Nat} {sp : Nat → Bool} {held : Bool} {r : Reach} {v : Value} {d : DataW H} {ps : List MemPlace}
    (hv : Value.okWide Try.prog W r b0 31 v) (h : DataW.Trod enc Try.prog W base sp held 31 v d ps) : ∃ (k : List Int) (c : Int) (n : List Int), v = .agg (bg k c n) ∧ k.length = 32 ∧ Bys k ∧ Wd c ∧ n.length = 12 ∧ Bys n := by
  obtain ⟨cs, rfl, hsz, _⟩ : ∃ cs, v = .agg cs ∧ cs.size = Try.prog.cellsOf 31 ∧ Row.okWide Try.prog W r b0 31 cs := by simpa [Value.okWide, Try.underlying31] using hv
  obtain ⟨fuel, hf⟩ := h
  obtain ⟨y0, y1, y2, n, _, hl, h0, h1, h2⟩ := Go.Deep.trod_struct3 Try.underlying31 hf
  have c31 : Try.prog.cellsOf 31 = 45 := by kernel_rfl
  have c28 : Try.prog.cellsOf 28 = 32 := by kernel_rfl
  have c22 : Try.prog.cellsOf 22 = 1 := by kernel_rfl
  have c29 : Try.prog.cellsOf 29 = 12 := by kernel_rfl
  have c5 : Try.prog.cellsOf 5 = 1 := by kernel_rfl
  simp only [Value.cells, c28, c22, c29] at h0 h1 h2
  have hl2 : cs.toList.length = 45 := by rw [← c31]; simpa using hsz
  obtain ⟨k, e0, l0, b0'⟩ := trod_ints Try.underlying28 Try.underlying5 c5 (by simp; omega) h0
  obtain ⟨c, e1, _, w1⟩ := DataW.trod_int Try.underlying22 h1
  obtain ⟨m, e2, l2, b2⟩ := trod_ints Try.underlying29 Try.underlying5 c5 (by simp; omega) h2
  refine ⟨k, c, m, ?_, l0, fun x hx => bounds_u8 (b0' x hx), bounds_u32 w1, l2, fun x hx => bounds_u8 (b2 x hx)⟩
  have ec : cs.toList = (cs.toList.drop 0).take 32 ++ ((cs.toList.drop 32).take 1 ++ (cs.toList.drop 33).take 12) := by
    apply List.ext_getElem?
    intro i
    by_cases hi : i < 32
    · rw [List.getElem?_append_left (by simp; omega)]
      simp [hi]
    · rw [List.getElem?_append_right (by simp; omega)]
      have : ((cs.toList.drop 0).take 32).length = 32 := by simp; omega
      rw [this]
      by_cases hi2 : i = 32
      · subst hi2
        rw [List.getElem?_append_left (by simp; omega)]
        simp
      · rw [List.getElem?_append_right (by simp; omega)]
        have : ((cs.toList.drop 32).take 1).length = 1 := by simp; omega
        rw [this]
        by_cases hi3 : i < 45
        · rw [List.getElem?_take, if_pos (by omega), List.getElem?_drop]
          congr 1
          omega
        · rw [List.getElem?_eq_none (by omega), List.getElem?_eq_none (by simp; omega)]
  congr 1
  apply Array.toList_inj.1
  rw [ec, e0, e1, e2]
  simp [bg]
section
variable {w : World} {q : Nat} {k n : List Int} {c : Int}
theorem bg_size (hk : k.length = 32) (hn : n.length = 12) : (bg k c n).size = 45 := by simp [bg, hk, hn]
theorem bg_key (hk : k.length = 32) (h : w.heap[q]? = some (.cells (bg k c n) 31 (0, 0))) : w.rangeAt q 0 (vs .u8 k).toList := fun j v hj => by
  rw [Nat.zero_add, cell_of_row w q j _ _ _ h]
  have hl : j < (vs .u8 k).toList.length := (List.getElem?_eq_some_iff.1 hj).1
  simp only [vs, List.length_map] at hl
  simp only [bg, List.getElem?_toArray]
  rw [List.getElem?_append_left (by simpa using hl)]
  simpa [vs] using hj
theorem bg_cell (hk : k.length = 32) (h : w.heap[q]? = some (.cells (bg k c n) 31 (0, 0))) : w.cell? ⟨q, 32, none⟩ = some (.int .u32 c) := by
  rw [cell_of_row w q 32 _ _ _ h]
  simp only [bg, List.getElem?_toArray]
  rw [List.getElem?_append_right (by simp [hk])]
  simp [hk]
theorem bg_nonce (hk : k.length = 32) (h : w.heap[q]? = some (.cells (bg k c n) 31 (0, 0))) : w.rangeAt q 33 (vs .u8 n).toList := fun j v hj => by
  rw [cell_of_row w q (33 + j) _ _ _ h]
  simp only [bg, List.getElem?_toArray]
  rw [List.getElem?_append_right (by simp [hk]; omega)]
  simp only [List.length_map, hk]
  rw [show 33 + j - 32 = j + 1 by omega, List.getElem?_cons_succ]
  simpa [vs] using hj
end
section
variable {C : World → Prop} {a : Act} {o : Oper} {K : Act → Prop}
/-- A part of an array or struct is loaded. -/
theorem quiet_mid (ty : TypeId) (d : TypeDesc) (x : Operand) (ho : o.op = .load ty x) (q i : Nat) (hx : a.eval x = .pointer (some ⟨q, i, none⟩)) (k : IntKind) (l : List Int) (hd : Try.prog.underlying ty = some d) (hr : d.isRow = true) (hl : (Try.prog.info? ty).map (·.size) = some l.length) (hg : ∀ w, C w → w.rangeAt q i (vs k l).toList)
    (hk : K (a.put o.dst (.agg (vs k l)))) : o.quiet Try.prog a C K := by
  refine quiet_run _ (fun w hw => ?_) hk
  unfold execOp
  simp only [ho, hx, Instr.loadAt, Instr.sureAddr, Sem.run_bind, Sem.run_pure, Result.andThen_ok, run_loadVar_mid (P := Try.prog) w q i ty (vs k l).toList _ (hg w hw) hd hr (by rw [hl]; simp [vs])]
theorem quiet_one (ty : TypeId) (k : IntKind) (x : Operand) (ho : o.op = .load ty x) (q i : Nat) (hx : a.eval x = .pointer (some ⟨q, i, none⟩)) (y : Int) (he : Try.prog.underlying ty = some (.int k)) (hg : ∀ w, C w → w.cell? ⟨q, i, none⟩ = some (.int k y))
    (hk : K (a.put o.dst (.int k y))) : o.quiet Try.prog a C K := by
  refine quiet_run _ (fun w hw => ?_) hk
  have hc := hg w hw
  unfold execOp
  simp [ho, hx, Instr.loadAt, Instr.sureAddr, loadVar, isAgg, run_underlying he, hc, Sem.run_bind, Sem.run_pure, Result.andThen_ok]
end
end Go.Proofs.Ytnagnolbomcnjaa
