/- The reference's press: lemmas. No condition. -/
import Derived.Test.YtebknlhooijkcaaZs
namespace Go.Proofs.Ytebknlhooijkcaa
set_option linter.unusedSimpArgs false
set_option linter.unusedVariables false
open Go.ChangeShapes Go.WideShapes Go.ChangeAt Go.RowKit


/-- Two halves of eight, each filled from its head. -/
theorem fl2_app (h k : List Int) (hh : h.length = 8) (t : Nat) : fl2 (h ++ k) t = fil h t 0 ++ fil k t 0 := by
  unfold fl2
  rw [← hh, List.take_left, List.drop_left]
theorem app_get {h k : List Int} (hh : h.length = 8) (i : Nat) : (h ++ k)[8 + i]? = k[i]? := by
  rw [List.getElem?_append_right (by omega), hh, Nat.add_sub_cancel_left]
theorem app_set {h k : List Int} (hh : h.length = 8) (i : Nat) (x : Int) : (h ++ k).set (8 + i) x = h ++ k.set i x := by
  rw [List.set_append_right _ _ (by omega), hh, Nat.add_sub_cancel_left]
theorem half_set {F h : List Int} {i : Nat} {y : Int} (hi : i < h.length) (hl : F.length = h.length) (hy : F[i]? = some y) : (F.take i ++ h.drop i).set i y = F.take (i + 1) ++ h.drop (i + 1) := by
  have e : (F.take i).length = i := by rw [List.length_take]; omega
  rw [List.set_append_right _ _ (by omega), e, Nat.sub_self, List.take_add_one, hy, List.drop_eq_getElem_cons hi, List.set_cons_zero, List.append_assoc]
  rfl
theorem half_get {F h : List Int} {i j : Nat} (hi : i ≤ j) (hl : F.length = h.length) (hj : j < h.length) : (F.take i ++ h.drop i)[j]? = some (h.getD j 0) := by
  have e : (F.take i).length = i := by rw [List.length_take]; omega
  rw [List.getElem?_append_right (by omega), e, List.getElem?_drop, show i + (j - i) = j by omega]
  exact getD_some hj
/-- Four bytes make a word. -/
theorem word4 {B : List Int} (hl : B.length = 64) (hb : Bys B) {i : Nat} (hi : i < 16) :
    ∃ b0 b1 b2 b3 s1 s2 s3 s4 s5 y, B.getD (4 * i) 0 = b0 ∧ B.getD (4 * i + 1) 0 = b1 ∧ B.getD (4 * i + 2) 0 = b2 ∧ B.getD (4 * i + 3) 0 = b3 ∧
      IntKind.u32.wrap b0 = b0 ∧ IntKind.u32.wrap b1 = b1 ∧ IntKind.u32.wrap b2 = b2 ∧ IntKind.u32.wrap b3 = b3 ∧
      IntKind.u32.wrap (b1 * 256) = s1 ∧ IntKind.u32.wrap (b0 + s1) = s2 ∧ IntKind.u32.wrap (b2 * 65536) = s3 ∧ IntKind.u32.wrap (s2 + s3) = s4 ∧ IntKind.u32.wrap (b3 * 16777216) = s5 ∧ IntKind.u32.wrap (s4 + s5) = y ∧ (ws B)[i]? = some y := by
  have g : ∀ j, j < 64 → 0 ≤ B.getD j 0 ∧ B.getD j 0 ≤ 255 := fun j hj => hb _ (List.mem_of_getElem? (getD_some (by omega)))
  have e := ws_get 16 B i hl hi
  obtain ⟨b0, h0⟩ : ∃ b, B.getD (4 * i) 0 = b := ⟨_, rfl⟩
  obtain ⟨b1, h1⟩ : ∃ b, B.getD (4 * i + 1) 0 = b := ⟨_, rfl⟩
  obtain ⟨b2, h2⟩ : ∃ b, B.getD (4 * i + 2) 0 = b := ⟨_, rfl⟩
  obtain ⟨b3, h3⟩ : ∃ b, B.getD (4 * i + 3) 0 = b := ⟨_, rfl⟩
  have g0 := g (4 * i) (by omega)
  have g1 := g (4 * i + 1) (by omega)
  have g2 := g (4 * i + 2) (by omega)
  have g3 := g (4 * i + 3) (by omega)
  rw [h0, h1, h2, h3] at e
  rw [h0] at g0
  rw [h1] at g1
  rw [h2] at g2
  rw [h3] at g3
  refine ⟨b0, b1, b2, b3, b1 * 256, b0 + b1 * 256, b2 * 65536, b0 + b1 * 256 + b2 * 65536, b3 * 16777216, nb b0 b1 b2 b3, h0, h1, h2, h3, ?_, ?_, ?_, ?_, ?_, ?_, ?_, ?_, ?_, ?_, e⟩
  all_goals (rw [wrap32]; try unfold nb)
  all_goals omega
end Go.Proofs.Ytebknlhooijkcaa
