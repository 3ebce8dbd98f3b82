/- The reference's Tag: contract. Conditions: a key of 32 bytes, a slice that lies in memory. -/
import Derived.Test.YtcoggpedpclkaaaRl
import Derived.Test.YtcoggpedpclkaaaRt
import Derived.Test.YtcoggpedpclkaaaSm
namespace Go.Proofs.Ytcoggpedpclkaaa
set_option linter.unusedSimpArgs false
set_option linter.unusedVariables false
open Go.RowKit

/-- Bytes, added to the first digits. -/
def ad : List Int → List Int → List Int
  | L, [] => L
  | [], _ => []
  | a :: L, x :: X => (a + x) :: ad L X
theorem ad_nil (L : List Int) : ad L [] = L := by cases L <;> rfl
theorem ad_length : ∀ (L X : List Int), (ad L X).length = L.length := by
  intro L
  induction L with
  | nil => intro X; cases X <;> rfl
  | cons a L ih =>
    intro X
    cases X with
    | nil => rfl
    | cons x X => simp [ad, ih X]
theorem ad_vl : ∀ (L X : List Int), X.length ≤ L.length → vl (ad L X) = vl L + vl X := by
  intro L
  induction L with
  | nil =>
    intro X h
    have : X = [] := List.eq_nil_of_length_eq_zero (by simpa using h)
    subst this
    rfl
  | cons a L ih =>
    intro X h
    cases X with
    | nil => simp [ad_nil, vl]
    | cons x X =>
      simp only [ad, vl, ih X (by simpa using h)]
      omega
theorem ad_get : ∀ (L X : List Int) (i : Nat), X.length ≤ i → (ad L X)[i]? = L[i]? := by
  intro L
  induction L with
  | nil => intro X i _; cases X <;> rfl
  | cons a L ih =>
    intro X i h
    cases X with
    | nil => rfl
    | cons x X =>
      cases i with
      | zero => simp at h
      | succ i => simp only [ad, List.getElem?_cons_succ]; exact ih X i (by simpa using h)
theorem ad_set : ∀ (L X : List Int) (y x : Int), L[X.length]? = some y → (ad L X).set X.length (y + x) = ad L (X ++ [x]) := by
  intro L
  induction L with
  | nil => intro X y x h; simp at h
  | cons a L ih =>
    intro X y x h
    cases X with
    | nil =>
      simp at h
      subst h
      simp [ad, ad_nil]
    | cons b X => simp only [ad, List.length_cons, List.set_cons_succ, List.cons_append, ih X y x (by simpa using h)]
theorem ad_dg : ∀ (L X : List Int) (m n : Int), 0 ≤ n → Dg m L → (∀ x ∈ X, 0 ≤ x ∧ x ≤ n) → Dg (m + n) (ad L X) := by
  intro L
  induction L with
  | nil => intro X m n _ _ _ x hx; cases X <;> simp [ad] at hx
  | cons a L ih =>
    intro X m n hn hL hX x hx
    cases X with
    | nil =>
      have := hL x hx
      omega
    | cons b X =>
      simp only [ad] at hx
      rcases List.mem_cons.1 hx with rfl | hx
      · have h1 := hL a (by simp)
        have h2 := hX b (by simp)
        omega
      · exact ih X m n hn (fun y hy => hL y (by simp [hy])) (fun y hy => hX y (by simp [hy])) x hx
/-- Each sum of two numbers, digit by digit. -/
theorem add_step (v s p : Int) (hp : 0 < p) : (v / p % 256 + s / p % 256 + (v % p + s % p) / p) % 256 = (v + s) / p % 256 ∧ (v / p % 256 + s / p % 256 + (v % p + s % p) / p) / 256 = (v % (p * 256) + s % (p * 256)) / (p * 256) := by
  obtain ⟨q, hq⟩ : ∃ q, q = s / p := ⟨_, rfl⟩
  obtain ⟨r, hr⟩ : ∃ r, r = s % p := ⟨_, rfl⟩
  have hv : s = r + p * q := by rw [hq, hr]; exact (Int.emod_add_mul_ediv s p).symm
  have h := lst_step v r p hp
  have e1 : (v + s) / p = (v + r) / p + q := by
    rw [hv, show v + (r + p * q) = (v + r) + p * q by omega, Int.add_mul_ediv_left _ _ (by omega)]
  have hm : s % (p * 256) = r + p * (q % 256) := by
    have r0 : 0 ≤ r := by rw [hr]; exact Int.emod_nonneg _ (by omega)
    have r1 : r < p := by rw [hr]; exact Int.emod_lt_of_pos _ hp
    have e : s = (r + p * (q % 256)) + (p * 256) * (q / 256) := by
      have h := Int.emod_add_mul_ediv q 256
      rw [hv]
      have : p * 256 * (q / 256) = p * (256 * (q / 256)) := Int.mul_assoc _ _ _
      rw [this, Int.add_assoc, ← Int.mul_add, h]
    have b0 : 0 ≤ p * (q % 256) := Int.mul_nonneg (by omega) (by omega)
    have b1 : p * (q % 256) ≤ p * 255 := Int.mul_le_mul_of_nonneg_left (by omega) (by omega)
    have : s % (p * 256) = (r + p * (q % 256)) % (p * 256) := by
      conv => lhs; rw [e]
      exact Int.add_mul_emod_self_left _ _ _
    rw [this]
    exact Int.emod_eq_of_lt (by omega) (by omega)
  rw [← hq, ← hr, e1, hm]
  obtain ⟨c, hc⟩ : ∃ c, c = (v % p + r) / p := ⟨_, rfl⟩
  rw [← hc] at h ⊢
  refine ⟨by omega, ?_⟩
  have e2 : (v % (p * 256) + (r + p * (q % 256))) / (p * 256) = (v / p % 256 + c + q % 256) / 256 := by
    rw [← Int.ediv_ediv_of_nonneg (by omega), show v % (p * 256) + (r + p * (q % 256)) = (v % (p * 256) + r) + p * (q % 256) by omega, Int.add_mul_ediv_left _ _ (by omega)]
    have e3 : (v % (p * 256) + r) / p = v / p % 256 + c := by
      have hm2 : v % (p * 256) = v % p + p * (v / p % 256) := by
        have e : v = (v % p + p * (v / p % 256)) + (p * 256) * (v / p / 256) := by
          have h1 := Int.emod_add_mul_ediv v p
          have h2 := Int.emod_add_mul_ediv (v / p) 256
          have : p * 256 * (v / p / 256) = p * (256 * (v / p / 256)) := Int.mul_assoc _ _ _
          rw [this, Int.add_assoc, ← Int.mul_add, h2, h1]
        have r0 := Int.emod_nonneg v (by omega : p ≠ 0)
        have r1 := Int.emod_lt_of_pos v hp
        have b0 : 0 ≤ p * (v / p % 256) := Int.mul_nonneg (by omega) (by omega)
        have b1 : p * (v / p % 256) ≤ p * 255 := Int.mul_le_mul_of_nonneg_left (by omega) (by omega)
        have : v % (p * 256) = (v % p + p * (v / p % 256)) % (p * 256) := by
          conv => lhs; rw [e]
          exact Int.add_mul_emod_self_left _ _ _
        rw [this]
        exact Int.emod_eq_of_lt (by omega) (by omega)
      rw [hm2, show v % p + p * (v / p % 256) + r = (v % p + r) + p * (v / p % 256) by omega, Int.add_mul_ediv_left _ _ (by omega), ← hc]
      omega
    rw [e3]
  rw [e2]
  congr 1
  omega
end Go.Proofs.Ytcoggpedpclkaaa
