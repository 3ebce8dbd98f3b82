/- A product of numbers of seventeen digits, modulo P. Lemmas alone. -/
import Derived.Test.YtcoggpedpclkaaaRc
import Derived.Test.YtcoggpedpclkaaaSp
namespace Go.Proofs.Ytcoggpedpclkaaa
set_option linter.unusedSimpArgs false
set_option linter.unusedVariables false
open Go.RowKit

set_option linter.unusedSectionVars false
/-- One product more. -/
def stp (A B O : List Int) (i k : Nat) : List Int :=
  if i + k < 17 then O.set (i + k) (O.getD (i + k) 0 + A.getD i 0 * B.getD k 0) else O.set (i + k - 17) (O.getD (i + k - 17) 0 + 320 * A.getD i 0 * B.getD k 0)
def inn (A B O : List Int) (i : Nat) : Nat → List Int
  | 0 => O
  | k + 1 => stp A B (inn A B O i k) i k
def prd (A B : List Int) : Nat → List Int
  | 0 => List.replicate 17 0
  | i + 1 => inn A B (prd A B i) i 17
theorem inn_zero (A B O : List Int) (i : Nat) : inn A B O i 0 = O := rfl
theorem inn_succ (A B O : List Int) (i k : Nat) : inn A B O i (k + 1) = stp A B (inn A B O i k) i k := rfl
theorem prd_zero (A B : List Int) : prd A B 0 = List.replicate 17 0 := rfl
theorem prd_succ (A B : List Int) (i : Nat) : prd A B (i + 1) = inn A B (prd A B i) i 17 := rfl
theorem vl_set (L : List Int) (j : Nat) (d : Int) (h : j < L.length) : vl (L.set j (L.getD j 0 + d)) = vl L + 256 ^ j * d := by
  induction L generalizing j with
  | nil => simp at h
  | cons a L ih =>
    cases j with
    | zero => simp [vl]; omega
    | succ j =>
      have e := ih j (by simpa using h)
      simp only [List.set_cons_succ, List.getD_cons_succ, vl, e, Int.pow_succ]
      rw [Int.mul_add, Int.mul_comm (256 ^ j) 256, Int.mul_assoc]
      omega
theorem stp_length (A B O : List Int) (i k : Nat) : (stp A B O i k).length = O.length := by
  unfold stp
  split <;> simp
theorem inn_length (A B O : List Int) (i : Nat) : ∀ k, (inn A B O i k).length = O.length := by
  intro k
  induction k with
  | zero => rfl
  | succ k ih => rw [inn, stp_length, ih]
theorem prd_length (A B : List Int) : ∀ i, (prd A B i).length = 17 := by
  intro i
  induction i with
  | zero => rfl
  | succ i ih => rw [prd, inn_length, ih]
section
variable {A B : List Int} (hA : A.length = 17) (hB : B.length = 17) (dA : Dg 256 A) (dB : Dg 256 B)
include hA hB dA dB
theorem stp_dg {O : List Int} {m : Int} {i k : Nat} (hO : O.length = 17) (dO : Dg m O) (hi : i < 17) (hk : k < 17) : Dg (m + 20808000) (stp A B O i k) := by
  have ha := dA.getD (i := i) (by omega)
  have hb := dB.getD (i := k) (by omega)
  have hp := mul_bd ha.1 (Int.le_of_lt_add_one (by omega : A.getD i 0 < 255 + 1)) hb.1 (Int.le_of_lt_add_one (by omega : B.getD k 0 < 255 + 1))
  intro x hx
  unfold stp at hx
  split at hx
  · rename_i h
    have ho := dO.getD (i := i + k) (by omega)
    rcases List.mem_or_eq_of_mem_set hx with hx | rfl
    · have := dO x hx; omega
    · omega
  · rename_i h
    have ho := dO.getD (i := i + k - 17) (by omega)
    rcases List.mem_or_eq_of_mem_set hx with hx | rfl
    · have := dO x hx; omega
    · rw [Int.mul_assoc]; omega
theorem inn_dg {O : List Int} {m : Int} {i : Nat} (hO : O.length = 17) (dO : Dg m O) (hi : i < 17) : ∀ k : Nat, k ≤ 17 → Dg (m + 20808000 * k) (inn A B O i k) := by
  intro k
  induction k with
  | zero => intro _; rw [show m + 20808000 * ((0 : Nat) : Int) = m by omega]; exact dO
  | succ k ih =>
    intro hk
    have := stp_dg hA hB dA dB (i := i) (k := k) (by rw [inn_length, hO]) (ih (by omega)) hi (by omega)
    rw [show m + 20808000 * ((k + 1 : Nat) : Int) = m + 20808000 * k + 20808000 by omega]
    exact this
theorem prd_dg : ∀ i : Nat, i ≤ 17 → Dg (1 + 353736000 * i) (prd A B i) := by
  intro i
  induction i with
  | zero =>
    intro _ x hx
    rw [List.eq_of_mem_replicate hx]
    omega
  | succ i ih =>
    intro hi
    have := inn_dg hA hB dA dB (i := i) (prd_length A B i) (ih (by omega)) (by omega) 17 (Nat.le_refl _)
    rw [show (1 : Int) + 353736000 * ((i + 1 : Nat) : Int) = 1 + 353736000 * i + 20808000 * ((17 : Nat) : Int) by omega]
    exact this
theorem stp_vl {O : List Int} {i k : Nat} (hO : O.length = 17) (hi : i < 17) (hk : k < 17) : vl (stp A B O i k) % pp = (vl O + 256 ^ (i + k) * (A.getD i 0 * B.getD k 0)) % pp := by
  unfold stp
  split
  · rename_i h
    rw [vl_set _ _ _ (by omega)]
  · rename_i h
    rw [vl_set _ _ _ (by omega)]
    obtain ⟨d, hd⟩ : ∃ d, i + k = 17 + d := ⟨i + k - 17, by omega⟩
    rw [hd, Nat.add_sub_cancel_left, Int.pow_add]
    have e2 : (320 : Int) * A.getD i 0 * B.getD k 0 = 320 * (A.getD i 0 * B.getD k 0) := Int.mul_assoc _ _ _
    rw [e2]
    generalize A.getD i 0 * B.getD k 0 = x
    generalize (256 : Int) ^ d = p
    have e : (256 : Int) ^ 17 * p * x = p * (320 * x) + pp * (64 * (p * x)) := by
      unfold pp
      simp only [Int.reducePow]
      grind
    rw [e, ← Int.add_assoc, Int.add_mul_emod_self_left]
theorem inn_vl {O : List Int} {i : Nat} (hO : O.length = 17) (hi : i < 17) : ∀ k, k ≤ 17 → vl (inn A B O i k) % pp = (vl O + 256 ^ i * (A.getD i 0 * vl (B.take k))) % pp := by
  intro k
  induction k with
  | zero => intro _; simp [inn, vl]
  | succ k ih =>
    intro hk
    rw [inn, stp_vl hA hB dA dB (by rw [inn_length, hO]) hi (by omega), Int.add_emod, ih (by omega), ← Int.add_emod, vl_take_succ B k (by omega), Int.pow_add]
    congr 1
    generalize (256 : Int) ^ i = p
    generalize (256 : Int) ^ k = q
    grind
theorem prd_vl : ∀ i, i ≤ 17 → vl (prd A B i) % pp = (vl (A.take i) * vl B) % pp := by
  intro i
  induction i with
  | zero => intro _; simp [prd, vl, vl_zeros]
  | succ i ih =>
    intro hi
    rw [prd, inn_vl hA hB dA dB (prd_length A B i) (by omega) 17 (Nat.le_refl _), Int.add_emod, ih (by omega), ← Int.add_emod, List.take_of_length_le (by omega : B.length ≤ 17), vl_take_succ A i (by omega)]
    congr 1
    generalize (256 : Int) ^ i = p
    grind
end
end Go.Proofs.Ytcoggpedpclkaaa
