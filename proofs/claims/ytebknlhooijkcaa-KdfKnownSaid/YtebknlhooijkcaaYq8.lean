/- A number brought below another, once for all worlds; pieces of what is expanded. Lemmas alone. -/
import Derived.Test.YtebknlhooijkcaaYo8
namespace Go.Proofs.Ytebknlhooijkcaa
set_option linter.unusedSimpArgs false
set_option linter.unusedVariables false
open Go.ChangeShapes Go.WideShapes Go.ChangeAt Go.RowKit

set_option maxHeartbeats 2000000 in
theorem bring_fix (n : Int) (k : Nat) (h1 : -9223372036854775808 ≤ n) (h2 : n ≤ 9223372036854775807) (hk : 1 ≤ k) (hk2 : k ≤ 140737488355328) :
    ∃ r : Nat, r < k ∧ ∀ w, Calls Try.prog 24 #[.int .i64 n, .int .i64 k] w fun e w' => e = .returned (.int .i64 r) ∧ w = w' := by
  have hd : decide ((k : Int) ≤ 0) = false := decide_eq_false (by omega)
  have hk0 : ¬ ((k : Int) = 0) := by omega
  have hb1 : -(k : Int) < n.tmod k := by
    rcases Int.le_total 0 n with h | h
    · rw [Int.tmod_eq_emod_of_nonneg h]; have := Int.emod_nonneg n hk0; omega
    · have e : n.tmod k = -((-n).tmod k) := by rw [← Int.neg_tmod, Int.neg_neg]
      rw [e, Int.tmod_eq_emod_of_nonneg (by omega)]
      have := Int.emod_lt_of_pos (-n) (show (0 : Int) < k by omega)
      omega
  have hb2 : n.tmod k < k := by
    rcases Int.le_total 0 n with h | h
    · rw [Int.tmod_eq_emod_of_nonneg h]; exact Int.emod_lt_of_pos n (by omega)
    · have e : n.tmod k = -((-n).tmod k) := by rw [← Int.neg_tmod, Int.neg_neg]
      rw [e, Int.tmod_eq_emod_of_nonneg (by omega)]
      have := Int.emod_nonneg (-n) hk0
      omega
  obtain ⟨t, ht⟩ : ∃ t, n.tmod (k : Int) = t := ⟨_, rfl⟩
  rw [ht] at hb1 hb2
  have v1 : IntKind.i64.wrap t = t := by rw [IntKind.wrap_i64]; omega
  have v2 : IntKind.i64.wrap (t + k) = t + k := by rw [IntKind.wrap_i64]; omega
  by_cases h0 : t < 0
  · have hd2 : decide (t < 0) = true := decide_eq_true h0
    obtain ⟨m, hm⟩ : ∃ m : Nat, t + k = m := ⟨(t + k).toNat, by omega⟩
    refine ⟨m, by omega, fun w => ?_⟩
    go_enter Try.func24, Try.ntmps24
    go_wp2
    go_ret
    exact ⟨by rw [← hm]; rfl, rfl⟩
  · have hd2 : decide (t < 0) = false := decide_eq_false h0
    obtain ⟨m, hm⟩ : ∃ m : Nat, t = m := ⟨t.toNat, by omega⟩
    refine ⟨m, by omega, fun w => ?_⟩
    go_enter Try.func24, Try.ntmps24
    go_wp2
    go_ret
    exact ⟨by rw [← hm]; rfl, rfl⟩
theorem expv_len (k b : List Int) (n : Nat) (h : n ≤ 8160) : expv k b (n : Int) = ((exs k b ((n + 31) / 32)).take n, 0) ∧ ((exs k b ((n + 31) / 32)).take n).length = n := by
  refine ⟨by rw [expv, if_neg (by omega), if_neg (by omega)]; rfl, ?_⟩
  rw [List.length_take, exs_length]; omega
/-- Fewer bytes are the beginning of more. -/
theorem exs_begin (k b : List Int) (m M : Nat) (h : m ≤ M) : ((exs k b ((M + 31) / 32)).take M).take m = (exs k b ((m + 31) / 32)).take m := by
  rw [List.take_take, Nat.min_eq_left h, ← exs_take k b ((m + 31) / 32) ((M + 31) / 32) (by omega), List.take_take, Nat.min_eq_left (by omega)]
theorem exs_piece (k b : List Int) (i n : Nat) (h : i < n) : ((exs k b n).drop (32 * i)).take (32 * (i + 1) - 32 * i) = ex k b (i + 1) := by
  rw [← List.drop_take, exs_take k b (i + 1) n (by omega), exs, List.drop_left' (exs_length k b i)]
end Go.Proofs.Ytebknlhooijkcaa
