/- The reference's Bring: a number brought below another; noughts made. Condition: at least 1. -/
import Derived.Test.YtnagnolbomcnjaaXe
namespace Go.Proofs.Ytnagnolbomcnjaa
set_option linter.unusedSimpArgs false
set_option linter.unusedVariables false
open Go.RowKit


set_option maxHeartbeats 2000000 in
theorem bring_ex (n : Int) (k : Nat) (w : World) (h1 : -9223372036854775808 ≤ n) (h2 : n ≤ 9223372036854775807) (hk : 1 ≤ k) (hk2 : k ≤ 140737488355328) :
    Calls Try.prog 23 #[.int .i64 n, .int .i64 k] w fun e w' => ∃ r : Nat, r < k ∧ e = .returned (.int .i64 r) ∧ w = w' := by
  have hd : decide ((k : Int) ≤ 0) = false := decide_eq_false (by omega)
  have hk0 : ¬ ((k : Int) = 0) := by omega
  have hb1 : -(k : Int) < n.tmod k := by
    rcases Int.le_total 0 n with h | h
    · rw [Int.tmod_eq_emod_of_nonneg h]; have := Int.emod_nonneg n hk0; omega
    · have e : n.tmod k = -((-n).tmod k) := by rw [← Int.neg_tmod, Int.neg_neg]
      rw [e, Int.tmod_eq_emod_of_nonneg (by omega)]
      have := Int.emod_lt_of_pos (-n) (show (0 : Int) < k by omega)
      omega
  have hb2 : n.tmod k < k := by
    rcases Int.le_total 0 n with h | h
    · rw [Int.tmod_eq_emod_of_nonneg h]; exact Int.emod_lt_of_pos n (by omega)
    · have e : n.tmod k = -((-n).tmod k) := by rw [← Int.neg_tmod, Int.neg_neg]
      rw [e, Int.tmod_eq_emod_of_nonneg (by omega)]
      have := Int.emod_nonneg (-n) hk0
      omega
  obtain ⟨t, ht⟩ : ∃ t, n.tmod (k : Int) = t := ⟨_, rfl⟩
  rw [ht] at hb1 hb2
  have v1 : IntKind.i64.wrap t = t := by rw [IntKind.wrap_i64]; omega
  have v2 : IntKind.i64.wrap (t + k) = t + k := by rw [IntKind.wrap_i64]; omega
  by_cases h0 : t < 0
  · have hd2 : decide (t < 0) = true := decide_eq_true h0
    go_enter Try.func23, Try.ntmps23
    go_wp2
    go_ret
    exact ⟨(t + k).toNat, by omega, by show _ = Ending.returned (.int .i64 _); rw [Int.toNat_of_nonneg (by omega)]; rfl, rfl⟩
  · have hd2 : decide (t < 0) = false := decide_eq_false h0
    go_enter Try.func23, Try.ntmps23
    go_wp2
    go_ret
    exact ⟨t.toNat, by omega, by show _ = Ending.returned (.int .i64 _); rw [Int.toNat_of_nonneg (by omega)]; rfl, rfl⟩
theorem run_mk2 (n : Nat) (hn : n ≤ 140737488355328) (W : World) : (Instr.makeSlice 35 (.int .i64 (n : Int)) (.int .i64 (n : Int))).run Try.prog W = .ok (.slice (some ⟨W.heap.size, 0, none⟩) n n) (W.alloc (.cells (vs .u8 (List.replicate n 0)) 5)) := by
  rw [run_mk n hn W]
  simp [vs]
theorem noughts (m : Nat) : Bys (List.replicate m 0) := by
  intro b hb
  rw [List.eq_of_mem_replicate hb]
  omega
theorem xo_noughts {k : List Int} {c : Int} {n : List Int} {m i : Nat} (h : i < m) : (xo k c n (List.replicate m 0))[i]? = some (ks k c n i) := by
  rw [xo_get (by simpa using h)]
  have e : (List.replicate m (0 : Int)).getD i 0 = 0 := by simp [List.getD_eq_getElem?_getD, List.getElem?_replicate]; split <;> rfl
  have := ks_by k c n i
  obtain ⟨x, hx⟩ := Int.eq_ofNat_of_zero_le this.1
  rw [e, hx]
  have h2 := x8_nat 0 x (by omega) (by rw [hx] at this; omega)
  rw [Nat.zero_xor] at h2
  exact congrArg some h2
theorem ks_shift (k : List Int) (c : Int) (n : List Int) (r j : Nat) : ks k (sm c r) n j = ks k c n (64 * r + j) := by
  unfold ks
  rw [show (64 * r + j) % 64 = j % 64 by omega, show (64 * r + j) / 64 = r + j / 64 by omega]
  congr 2
  unfold sm
  omega
theorem xo_drop (k : List Int) (c : Int) (n b : List Int) (r : Nat) : xo k (sm c r) n (b.drop (64 * r)) = (xo k c n b).drop (64 * r) := by
  apply List.ext_getElem?
  intro j
  rw [List.getElem?_drop]
  by_cases h : 64 * r + j < b.length
  · rw [xo_get (by rw [List.length_drop]; omega), xo_get h, ks_shift]
    simp [List.getD_eq_getElem?_getD, List.getElem?_drop]
  · rw [List.getElem?_eq_none (by rw [xo_length, List.length_drop]; omega), List.getElem?_eq_none (by rw [xo_length]; omega)]
end Go.Proofs.Ytnagnolbomcnjaa
