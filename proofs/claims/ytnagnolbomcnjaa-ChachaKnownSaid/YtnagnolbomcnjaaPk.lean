/- The places of the quarter rounds, one behind the other: lemmas alone. -/
import Derived.Test.YtnagnolbomcnjaaRn
namespace Go.Proofs.Ytnagnolbomcnjaa
set_option linter.unusedSimpArgs false
set_option linter.unusedVariables false
open Go.RowKit

/-- The first places' quarter rounds. -/
def pk (m : Nat) (t : List Int) : List Int := (places.take m).foldl qal t
theorem pk_succ (t : List Int) (m : Nat) (h : m < 8) : pk (m + 1) t = qal (pk m t) (places.getD m []) := by
  have h2 : m < places.length := h
  unfold pk
  rw [List.take_succ_eq_append_getElem h2, List.foldl_append, List.getD_eq_getElem?_getD, List.getElem?_eq_getElem h2]
  rfl
theorem pk_eight (t : List Int) : pk 8 t = rds t := rfl
theorem pk_ok {t : List Int} (hl : t.length = 16) (hw : Wds t) (m : Nat) : (pk m t).length = 16 ∧ Wds (pk m t) := by
  have key : ∀ (ps : List (List Nat)) (s : List Int), (∀ p ∈ ps, ∀ x ∈ p, x < 16) → s.length = 16 → Wds s → (ps.foldl qal s).length = 16 ∧ Wds (ps.foldl qal s) := by
    intro ps
    induction ps with
    | nil => intro s _ h1 h2; exact ⟨h1, h2⟩
    | cons p r ih =>
      intro s hp h1 h2
      have hb : ∀ i, p.getD i 0 < 16 := fun i => by
        rw [List.getD_eq_getElem?_getD]
        rcases h : p[i]? with _ | x
        · simp
        · exact hp p (by simp) x (List.mem_of_getElem? h)
      exact ih _ (fun q hq => hp q (by simp [hq])) (by rw [qal, qat_length, h1]) (qat_wds h2 (by rw [h1]; exact hb 0) (by rw [h1]; exact hb 1) (by rw [h1]; exact hb 2) (by rw [h1]; exact hb 3))
  have all : ∀ p ∈ places, ∀ x ∈ p, x < 16 := by decide
  exact key _ t (fun p hp => all p (List.mem_of_mem_take hp)) hl hw
theorem flat_at : ∀ m, m < 8 → ∃ p0 p1 p2 p3 : Nat, places.getD m [] = [p0, p1, p2, p3] ∧ p0 < 16 ∧ p1 < 16 ∧ p2 < 16 ∧ p3 < 16 ∧ (flatP.drop (4 * m)).take 4 = [(p0 : Int), (p1 : Int), (p2 : Int), (p3 : Int)] := by
  intro m hm
  match m, hm with
  | 0, _ => exact ⟨0, 4, 8, 12, rfl, by decide, by decide, by decide, by decide, rfl⟩
  | 1, _ => exact ⟨1, 5, 9, 13, rfl, by decide, by decide, by decide, by decide, rfl⟩
  | 2, _ => exact ⟨2, 6, 10, 14, rfl, by decide, by decide, by decide, by decide, rfl⟩
  | 3, _ => exact ⟨3, 7, 11, 15, rfl, by decide, by decide, by decide, by decide, rfl⟩
  | 4, _ => exact ⟨0, 5, 10, 15, rfl, by decide, by decide, by decide, by decide, rfl⟩
  | 5, _ => exact ⟨1, 6, 11, 12, rfl, by decide, by decide, by decide, by decide, rfl⟩
  | 6, _ => exact ⟨2, 7, 8, 13, rfl, by decide, by decide, by decide, by decide, rfl⟩
  | 7, _ => exact ⟨3, 4, 9, 14, rfl, by decide, by decide, by decide, by decide, rfl⟩
theorem flat_range {W : World} {tq : Nat} {FP : List Int} {m p0 p1 p2 p3 : Nat} (h : Ar W tq 57 .i64 FP) (hf : (FP.drop (4 * m)).take 4 = [(p0 : Int), (p1 : Int), (p2 : Int), (p3 : Int)]) :
    W.rangeAt tq (4 * m) [.int .i64 p0, .int .i64 p1, .int .i64 p2, .int .i64 p3] := fun j v hj => by
  have e : [Value.int .i64 p0, .int .i64 p1, .int .i64 p2, .int .i64 p3] = ((FP.drop (4 * m)).take 4).map (Value.int .i64) := by rw [hf]; rfl
  rw [e, List.getElem?_map] at hj
  obtain ⟨x, hx, rfl⟩ := Option.map_eq_some_iff.1 hj
  rw [List.getElem?_take] at hx
  split at hx
  · rw [List.getElem?_drop] at hx
    exact h.cell hx
  · cases hx
/-- The first of four words laid at their places. -/
def ps (s : List Int) (pl : List Nat) (ql : List Int) : Nat → List Int
  | 0 => s
  | i + 1 => (ps s pl ql i).set (pl.getD i 0) (ql.getD i 0)
theorem ps_length (s : List Int) (pl : List Nat) (ql : List Int) (i : Nat) : (ps s pl ql i).length = s.length := by
  induction i with
  | zero => rfl
  | succ i ih => simp [ps, ih]
theorem ps_four {s : List Int} {p0 p1 p2 p3 : Nat} {x0 x1 x2 x3 z0 z1 z2 z3 : Int} (h0 : s.getD p0 0 = x0) (h1 : s.getD p1 0 = x1) (h2 : s.getD p2 0 = x2) (h3 : s.getD p3 0 = x3) (hq : qf x0 x1 x2 x3 = (z0, z1, z2, z3)) :
    ps s [p0, p1, p2, p3] [z0, z1, z2, z3] 4 = qat s p0 p1 p2 p3 := (qat_eq h0 h1 h2 h3 hq).symm
theorem get_nat {l : List Nat} {i : Nat} (h : i < l.length) : l[i]? = some (l.getD i 0) := by
  rw [List.getD_eq_getElem?_getD, List.getElem?_eq_getElem h]
  rfl
theorem cast4 {p0 p1 p2 p3 i : Nat} (h : i < 4) : ([(p0 : Int), p1, p2, p3])[i]? = some (([p0, p1, p2, p3].getD i 0 : Nat) : Int) := by
  match i, h with
  | 0, _ => rfl
  | 1, _ => rfl
  | 2, _ => rfl
  | 3, _ => rfl
theorem lt4 {p0 p1 p2 p3 i : Nat} (h : i < 4) (b : p0 < 16 ∧ p1 < 16 ∧ p2 < 16 ∧ p3 < 16) : [p0, p1, p2, p3].getD i 0 < 16 := by
  match i, h with
  | 0, _ => exact b.1
  | 1, _ => exact b.2.1
  | 2, _ => exact b.2.2.1
  | 3, _ => exact b.2.2.2
end Go.Proofs.Ytnagnolbomcnjaa
