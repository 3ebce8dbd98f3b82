/- == on arrays of integers, of any length: a law of the model's operation. Its condition: both arrays have the type's length. -/
import Derived.Test.YtbkbodcncjhcmaaFrom
import Derived.ChangeKeysEq
import Derived.Laws.StructEq
namespace Go.Proofs.Ytbkbodcncjhcmaa
open Go.RowKit

theorem run_eqItems_ints {P : Program} (d : Nat) {e : TypeId} {k' k : IntKind} (he : P.underlying e = some (.int k')) (hp : P.plainKey e = true) (hc : P.cellsOf e = 1) (l m : List Int) (w : World) :
    ∀ is : List Nat, (∀ i ∈ is, i < l.length ∧ i < m.length) →
      (Op.eqItems (d + 1) e (P.cellsOf e) (l.map (Value.int k)).toArray (m.map (Value.int k)).toArray is).run P w = .ok (decide (∀ i ∈ is, l[i]? = m[i]?)) w
  | [], _ => by simp [Op.eqItems]
  | i :: is, h => by
    have h0 := h i (by simp)
    have ih := run_eqItems_ints (k := k) d he hp hc l m w is (fun j hj => h j (by simp [hj]))
    have p1 := run_part_plain w hp (xs := (l.map (Value.int k)).toArray) (off := i * P.cellsOf e) (v := .int k l[i]) (by simp [hc, h0.1])
    have p2 := run_part_plain w hp (xs := (m.map (Value.int k)).toArray) (off := i * P.cellsOf e) (v := .int k m[i]) (by simp [hc, h0.2])
    have p3 := run_equalIn_int (P := P) w d e k k' l[i] m[i] he
    simp only [Op.eqItems, Sem.run_bind, p1, p2, p3, Result.andThen_ok]
    by_cases hx : l[i] = m[i]
    · have hb : (l[i] == m[i]) = true := by simpa using hx
      have hs : l[i]? = m[i]? := by rw [List.getElem?_eq_getElem h0.1, List.getElem?_eq_getElem h0.2, hx]
      rw [hb]
      simp only [Bool.not_true, Bool.false_eq_true, if_false, ih]
      congr 1
      simp [hs]
    · have hb : (l[i] == m[i]) = false := by simpa using hx
      have hs : ¬ l[i]? = m[i]? := by rw [List.getElem?_eq_getElem h0.1, List.getElem?_eq_getElem h0.2]; simpa using hx
      rw [hb]
      simp only [Bool.not_false, if_true, Sem.run_pure]
      congr 1
      simp [hs]

theorem run_equalIn_ints {P : Program} (d : Nat) {t e : TypeId} {k' k : IntKind} {n : Nat} {i : TypeInfo} (hu : P.underlying t = some (.array n e)) (hi : P.info? e = some i) (he : P.underlying e = some (.int k')) (hp : P.plainKey e = true) (hc : P.cellsOf e = 1) (l m : List Int) (hl : l.length = n) (hm : m.length = n) (w : World) :
    (Op.equalIn (d + 2) t (.agg (l.map (Value.int k)).toArray) (.agg (m.map (Value.int k)).toArray)).run P w = .ok (decide (l = m)) w := by
  rw [run_equalIn_array w (d + 1) _ _ hu hi, run_eqItems_ints d he hp hc l m w _ (fun j hj => by simp at hj; omega)]
  congr 1
  apply decide_eq_decide.2
  constructor
  · intro h
    apply List.ext_getElem?
    intro j
    by_cases hj : j < n
    · exact h j (by simpa using hj)
    · rw [List.getElem?_eq_none (by omega), List.getElem?_eq_none (by omega)]
  · rintro rfl j _
    rfl
end Go.Proofs.Ytbkbodcncjhcmaa
