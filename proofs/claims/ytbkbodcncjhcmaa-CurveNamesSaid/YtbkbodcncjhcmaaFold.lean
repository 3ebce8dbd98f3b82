/- field.folded: the element of a product. Its condition: eight words of a number below 2^510. -/
import Derived.Test.YtbkbodcncjhcmaaRow
namespace Go.Proofs.Ytbkbodcncjhcmaa
open Go.RowKit

theorem times_ex (a b c d : Int) (ha : Wd a) (hb : Wd b) (hc : Wd c) (hd : Wd d) : ∃ lo hi : Int, Wd lo ∧ Wd hi ∧ Hid (a * b + c + d = lo + 18446744073709551616 * hi) ∧
    ∀ W, Calls Try.prog 56 #[.int .u64 a, .int .u64 b, .int .u64 c, .int .u64 d] W fun e w' => e = .returned (.tuple #[.int .u64 lo, .int .u64 hi]) ∧ w' = W := by
  have h0 : 0 ≤ a * b := Int.mul_nonneg ha.1 hb.1
  have h1 : a * b ≤ 18446744073709551615 * 18446744073709551615 := Int.mul_le_mul (by have := ha.2; omega) (by have := hb.2; omega) hb.1 (by decide)
  have hlo : Wd ((a * b + c + d) % 18446744073709551616) := ⟨by omega, by omega⟩
  have hhi : Wd ((a * b + c + d) / 18446744073709551616) := by
    unfold Wd at hc hd
    exact ⟨by omega, by omega⟩
  have h : Hid (a * b + c + d = (a * b + c + d) % 18446744073709551616 + 18446744073709551616 * ((a * b + c + d) / 18446744073709551616)) := by
    show _ = _
    omega
  refine ⟨_, _, hlo, hhi, h, fun W => ?_⟩
  refine (times_is a b c d _ _ W ha hb hc hd hlo hhi h).mono ?_
  rintro e w' ⟨rfl, rfl⟩
  exact ⟨rfl, rfl⟩
theorem or_bit (c b : Int) (hc0 : 0 ≤ c) (hc1 : c ≤ 4294967295) (hb0 : 0 ≤ b) (hb1 : b ≤ 1) : bits .or .u64 (c * 2) b = c * 2 + b := by
  obtain ⟨c, rfl⟩ := Int.eq_ofNat_of_zero_le hc0
  obtain ⟨b, rfl⟩ := Int.eq_ofNat_of_zero_le hb0
  have e : (c : Int) * 2 = ((2 ^ 1 * c : Nat) : Int) := by simp [Int.mul_comm]
  rw [e, bits_or_u64_nat _ _ (by omega) (by omega), ← Nat.two_pow_add_eq_or_of_lt (by omega)]
  simp

theorem list8 (M : List Int) (h : M.length = 8) : ∃ a b c d e f g i, M = [a, b, c, d, e, f, g, i] := by
  match M, h with
  | [a, b, c, d, e, f, g, i], _ => exact ⟨a, b, c, d, e, f, g, i, rfl⟩

/-- A callee that leaves the world alone, met behind draws. -/
theorem calm_draws {P : Program} {f : FuncId} {args : Array Value} {v : Value} (c : ∀ W : World, Calls P f args W fun e w' => e = .returned v ∧ w' = W) (w : World) (a n : Nat) :
    Calls P f args (w.drewN (a + n)) fun e w'' => e = .returned v ∧ ∃ m, w'' = w.drewN (a + m) :=
  (c _).mono fun _ _ ⟨he, hm⟩ => ⟨he, n, hm⟩

set_option maxHeartbeats 4000000 in
theorem folded_is (q : Nat) (M : List Int) (V r : Int) (w : World) (hq : Ar w q 77 .u64 M) (hl : M.length = 8) (hM : Wds M) (hV : Hid (vx M = V ∧ V < 3351951982485649274893506249551461531869841455148098344430890360930441007518386744200468574541725856922507964546621512713438470702986642486608412251521024 ∧ V % pp = r)) :
    Calls Try.prog 55 #[.pointer (some ⟨q, 0, none⟩)] w fun e w' => e = .returned (el r) ∧ Fr (fun _ => False) w w' := by
  obtain ⟨m0, m1, m2, m3, m4, m5, m6, m7, rfl⟩ := list8 M hl
  have h0 := hM m0 (by simp)
  have h1 := hM m1 (by simp)
  have h2 := hM m2 (by simp)
  have h3 := hM m3 (by simp)
  have h4 := hM m4 (by simp)
  have h5 := hM m5 (by simp)
  have h6 := hM m6 (by simp)
  have h7 := hM m7 (by simp)
  obtain ⟨n0, c0, hn0, hc0, q0, C0⟩ := times_ex m4 38 m0 0 h4 ⟨by decide, by decide⟩ h0 ⟨by decide, by decide⟩
  obtain ⟨n1, c1, hn1, hc1, q1, C1⟩ := times_ex m5 38 m1 c0 h5 ⟨by decide, by decide⟩ h1 hc0
  obtain ⟨n2, c2, hn2, hc2, q2, C2⟩ := times_ex m6 38 m2 c1 h6 ⟨by decide, by decide⟩ h2 hc1
  obtain ⟨n3, c3, hn3, hc3, q3, C3⟩ := times_ex m7 38 m3 c2 h7 ⟨by decide, by decide⟩ h3 hc2
  obtain ⟨N, hN⟩ : ∃ N, N = wv n0 n1 n2 n3 + 115792089237316195423570985008687907853269984665640564039457584007913129639936 * c3 := ⟨_, rfl⟩
  have hNV : N = wv m0 m1 m2 m3 + 38 * wv m4 m5 m6 m7 ∧ V = wv m0 m1 m2 m3 + 115792089237316195423570985008687907853269984665640564039457584007913129639936 * wv m4 m5 m6 m7 := by
    have g0 := q0.out
    have g1 := q1.out
    have g2 := q2.out
    have g3 := q3.out
    constructor
    · rw [hN]
      unfold wv
      clear hV hN
      omega
    · rw [← hV.out.1]
      simp only [vx]
      unfold wv
      omega
  have hlo : 0 ≤ wv m0 m1 m2 m3 ∧ wv m0 m1 m2 m3 < 115792089237316195423570985008687907853269984665640564039457584007913129639936 := by
    unfold Wd at h0 h1 h2 h3
    unfold wv
    clear hV hNV hN
    omega
  have hhi : 0 ≤ wv m4 m5 m6 m7 := by
    unfold Wd at h4 h5 h6 h7
    unfold wv
    clear hV hNV hN
    omega
  have hnn : 0 ≤ wv n0 n1 n2 n3 ∧ wv n0 n1 n2 n3 < 115792089237316195423570985008687907853269984665640564039457584007913129639936 := by
    unfold Wd at hn0 hn1 hn2 hn3
    unfold wv
    clear hV hNV hN hlo
    omega
  obtain ⟨hVr, hVb, hVm⟩ := hV.out
  have hN1 : 0 ≤ N ∧ N < 1215816936991820051947495342591223032459334838989225922414304632083087861219328 + 57896044618658097711785492504343953926634992332820282019728792003956564819968 := by
    obtain ⟨e1, e2⟩ := hNV
    rw [e2] at hVb
    clear hV hVr hVm hN hnn q0 q1 q2 q3
    omega
  have hNr : N % pp = r := by
    obtain ⟨e1, e2⟩ := hNV
    rw [← hVm, e1, e2]
    have : wv m0 m1 m2 m3 + 115792089237316195423570985008687907853269984665640564039457584007913129639936 * wv m4 m5 m6 m7 = wv m0 m1 m2 m3 + 38 * wv m4 m5 m6 m7 + pp * (2 * wv m4 m5 m6 m7) := by
      unfold pp
      omega
    rw [this, Int.add_mul_emod_self_left]
  have hc3b : c3 ≤ 10 := by
    clear hV hVr hVm hVb hNV q0 q1 q2 q3 hNr
    omega
  have hc30 := hc3.1
  obtain ⟨b, hb⟩ : ∃ b, n3 / 9223372036854775808 = b := ⟨_, rfl⟩
  have hb0 : 0 ≤ b := by unfold Wd at hn3; omega
  have hb1 : b ≤ 1 := by unfold Wd at hn3; omega
  have w1 : IntKind.u64.wrap (c3 * 2) = c3 * 2 := wrap_in _ ⟨by omega, by omega⟩
  have o1 := or_bit c3 b hc30 (by omega) hb0 hb1
  have w2 : IntKind.u64.wrap (19 * (c3 * 2 + b)) = 19 * (c3 * 2 + b) := wrap_in _ ⟨by omega, by omega⟩
  obtain ⟨s0, k0, hs0, hk00, hk01, e0, f0⟩ := run_add_ex n0 (19 * (c3 * 2 + b)) 0 hn0 ⟨by omega, by omega⟩ (by decide) (by decide)
  obtain ⟨s1, k1, hs1, hk10, hk11, e1, f1⟩ := run_add_ex n1 0 k0 hn1 ⟨by decide, by decide⟩ hk00 hk01
  obtain ⟨s2, k2, hs2, hk20, hk21, e2, f2⟩ := run_add_ex n2 0 k1 hn2 ⟨by decide, by decide⟩ hk10 hk11
  have a1 := low63 n3 hn3
  obtain ⟨x3, hx3⟩ : ∃ x, n3 % 9223372036854775808 = x := ⟨_, rfl⟩
  rw [hx3] at a1
  have hx30 : 0 ≤ x3 ∧ x3 < 9223372036854775808 := by omega
  have w3 : IntKind.u64.wrap (x3 + k2) = x3 + k2 := wrap_in _ ⟨by omega, by omega⟩
  have hVV : wv s0 s1 s2 (x3 + k2) = N - pp * (c3 * 2 + b) := by
    have g0 := e0.out
    have g1 := e1.out
    have g2 := e2.out
    rw [hN]
    unfold wv pp
    have hn : n3 = x3 + 9223372036854775808 * b := by omega
    rw [hn]
    clear hV hVr hVm hVb hNV q0 q1 q2 q3 hNr hN hN1 hnn hlo hhi
    omega
  have hV2 : Hid (wv s0 s1 s2 (x3 + k2) = N - pp * (c3 * 2 + b) ∧ N - pp * (c3 * 2 + b) < 2 * pp ∧ (N - pp * (c3 * 2 + b)) % pp = r) := by
    refine ⟨hVV, ?_, ?_⟩
    · have hn : n3 = x3 + 9223372036854775808 * b := by omega
      have hw : wv n0 n1 n2 n3 < 57896044618658097711785492504343953926634992332820282019728792003956564819968 * (b + 1) := by
        rw [hn]
        unfold Wd at hn0 hn1 hn2
        unfold wv
        clear hV hVr hVm hVb hNV q0 q1 q2 q3 hNr hN hN1 hnn hlo hhi hVV e0 e1 e2
        omega
      rw [hN]
      unfold pp
      clear hV hVr hVm hVb hNV q0 q1 q2 q3 hNr hN hN1 hnn hlo hhi hVV e0 e1 e2
      omega
    · rw [Int.sub_mul_emod_self_left, hNr]
  obtain ⟨r0, r1, r2, r3, her, -, -, -, -, -⟩ := el_words (El.of hVm).1 (El.of hVm).2
  have CL := fun W => least_agg W hs0 hs1 hs2 ⟨by omega, by omega⟩ hV2 her
  have HE : Hid (el r = .agg #[.int .u64 r0, .int .u64 r1, .int .u64 r2, .int .u64 r3]) := her
  have HQ : Hid (Ar w q 77 .u64 [m0, m1, m2, m3, m4, m5, m6, m7]) := hq
  have x0 := hq.cell (i := 0) rfl
  have x1 := hq.cell (i := 1) rfl
  have x2 := hq.cell (i := 2) rfl
  have x4 := hq.cell (i := 3) rfl
  have x5 := hq.cell (i := 4) rfl
  have x6 := hq.cell (i := 5) rfl
  have x7 := hq.cell (i := 6) rfl
  have x8 := hq.cell (i := 7) rfl
  have hqn : q < w.heap.size := hq.lt
  clear hV hVr hVm hVb hNV q0 q1 q2 q3 hNr hN hN1 hnn hlo hhi hVV e0 e1 e2 hx3 hx30 hV2 her hq hl hM h0 h1 h2 h3 h4 h5 h6 h7 hn0 hn1 hn2 hn3 hc0 hc1 hc2 hc3 hs0 hs1 hs2
  go_enter Try.func55, Try.ntmps55
  go_wp2
  go_quiet ((go_at_call 56; exact Calls.quiet_of_same (C0 _)))
  go_wp2
  go_quiet ((go_at_call 56; exact calm_draws C1 _ _ _))
  go_wp2
  go_quiet ((go_at_call 56; exact calm_draws C2 _ _ _))
  go_wp2
  go_quiet ((go_at_call 56; exact calm_draws C3 _ _ _))
  go_wp2_with fail
  refine (CL _).mono ?_
  rintro e w5 ⟨rfl, hf5⟩
  have e0 := heap_alloc_new w (.cells #[.int .u64 0, .int .u64 0, .int .u64 0, .int .u64 0] 37)
  have R5 := Lib.hid ((hf5.block w.heap.size (heap_lt e0) (fun x => x)).trans e0)
  have F5 : Hid (Fr (fun _ => False) w w5) := Fr.trans (((Fr.refl _ w).alloc _).drewN _) hf5
  clear hf5 e0
  have z0 : w5.cell? ⟨w.heap.size, 0, none⟩ = some (.int .u64 0) := by rw [cell_of_row w5 _ 0 _ _ _ R5.out]; rfl
  have z1 : w5.cell? ⟨w.heap.size, 1, none⟩ = some (.int .u64 0) := by rw [cell_of_row w5 _ 1 _ _ _ R5.out]; rfl
  have z2 : w5.cell? ⟨w.heap.size, 2, none⟩ = some (.int .u64 0) := by rw [cell_of_row w5 _ 2 _ _ _ R5.out]; rfl
  have z3 : w5.cell? ⟨w.heap.size, 3, none⟩ = some (.int .u64 0) := by rw [cell_of_row w5 _ 3 _ _ _ R5.out]; rfl
  have zf : ∀ j, w5.frozen? ⟨w.heap.size, j, none⟩ = false := fun j => frozen_of_row _ _ _ _ _ R5.out
  go_wp2
  exact bodyPost_ret (results_cell_row Try.results55 _ _ _ 37 _ (0, 0) _ rfl (set4 _ _ _ _ R5.out) Try.underlying37 rfl size28) rfl ⟨by rw [HE.out], F5.out.set4 _ _ _ _ (by omega)⟩
end Go.Proofs.Ytbkbodcncjhcmaa
