/- Elements as four words; the element of a number below 2 p; a product of two words and two more. Each contract says its condition. -/
import Derived.Test.YtbkbodcncjhcmaaBase
namespace Go.Proofs.Ytbkbodcncjhcmaa
open Go.RowKit

def pp : Int := 57896044618658097711785492504343953926634992332820282019728792003956564819949
/-- The element of a number: its four words. -/
def el (v : Int) : Value := .agg #[.int .u64 (v % 18446744073709551616), .int .u64 (v / 18446744073709551616 % 18446744073709551616), .int .u64 (v / 340282366920938463463374607431768211456 % 18446744073709551616), .int .u64 (v / 6277101735386680763835789423207666416102355444464034512896 % 18446744073709551616)]
/-- The number of four words. -/
def wv (a b c d : Int) : Int := a + 18446744073709551616 * b + 340282366920938463463374607431768211456 * c + 6277101735386680763835789423207666416102355444464034512896 * d
def Wd (x : Int) : Prop := 0 ≤ x ∧ x < 18446744073709551616

theorem el_eq {a b c d v : Int} (ha : Wd a) (hb : Wd b) (hc : Wd c) (hd : Wd d) (h : wv a b c d = v) : el v = .agg #[.int .u64 a, .int .u64 b, .int .u64 c, .int .u64 d] := by
  subst h
  unfold Wd at ha hb hc hd
  unfold el wv
  have e1 : (a + 18446744073709551616 * b + 340282366920938463463374607431768211456 * c + 6277101735386680763835789423207666416102355444464034512896 * d) % 18446744073709551616 = a := by omega
  have e2 : (a + 18446744073709551616 * b + 340282366920938463463374607431768211456 * c + 6277101735386680763835789423207666416102355444464034512896 * d) / 18446744073709551616 % 18446744073709551616 = b := by omega
  have e3 : (a + 18446744073709551616 * b + 340282366920938463463374607431768211456 * c + 6277101735386680763835789423207666416102355444464034512896 * d) / 340282366920938463463374607431768211456 % 18446744073709551616 = c := by omega
  have e4 : (a + 18446744073709551616 * b + 340282366920938463463374607431768211456 * c + 6277101735386680763835789423207666416102355444464034512896 * d) / 6277101735386680763835789423207666416102355444464034512896 % 18446744073709551616 = d := by omega
  rw [e1, e2, e3, e4]

/-- The words of an element below p. -/
theorem el_words {v : Int} (h0 : 0 ≤ v) (h1 : v < pp) : ∃ a b c d, el v = .agg #[.int .u64 a, .int .u64 b, .int .u64 c, .int .u64 d] ∧ Wd a ∧ Wd b ∧ Wd c ∧ (0 ≤ d ∧ d < 9223372036854775808) ∧ Hid (v = wv a b c d) := by
  refine ⟨_, _, _, _, rfl, ?_⟩
  unfold pp at h1
  refine ⟨⟨by omega, by omega⟩, ⟨by omega, by omega⟩, ⟨by omega, by omega⟩, ⟨by omega, by omega⟩, ?_⟩
  show _ = _
  unfold wv
  omega

/-! ### The leaves -/
theorem run_add_ex (x y c : Int) (hx : Wd x) (hy : Wd y) (hc0 : 0 ≤ c) (hc : c ≤ 1) : ∃ s k : Int, Wd s ∧ 0 ≤ k ∧ k ≤ 1 ∧ Hid (x + y + c = s + 18446744073709551616 * k) ∧
    ∀ w, (callFunc 48 #[.int .u64 x, .int .u64 y, .int .u64 c]).run Try.prog w = .ok (.value (.tuple #[.int .u64 s, .int .u64 k])) w := by
  unfold Wd at hx hy
  refine ⟨_, _, ?_, ?_, ?_, ?_, fun w => run_add x y c (by omega) (by omega) hc0 hc w⟩
  · exact ⟨by omega, by omega⟩
  · omega
  · omega
  · show _ = _
    omega

def sub64Entry : Array Value → Sem Value := fun args => do
  let (x, y, b) ← Extern.MathBitsCarry.three "Sub64" args
  pure (Extern.MathBitsCarry.pair ((x + Extern.MathBitsCarry.m64 - y - b) % Extern.MathBitsCarry.m64) (if x < y + b then 1 else 0))
theorem run_sub64 {P : Program} (x y b : Nat) (hb : b ≤ 1) (w : World) :
    (sub64Entry #[.int .u64 x, .int .u64 y, .int .u64 b]).run P w =
      .ok (.tuple #[.int .u64 (((x + 18446744073709551616 - y - b) % 18446744073709551616 : Nat) : Int), .int .u64 ((if x < y + b then 1 else 0 : Nat) : Int)]) w := by
  have : b = 0 ∨ b = 1 := by omega
  rcases this with rfl | rfl <;> rfl
theorem run_sub_ex (x y c : Int) (hx : Wd x) (hy : Wd y) (hc0 : 0 ≤ c) (hc : c ≤ 1) : ∃ s k : Int, Wd s ∧ 0 ≤ k ∧ k ≤ 1 ∧ Hid (x - y - c = s - 18446744073709551616 * k) ∧
    ∀ w, (callFunc 37 #[.int .u64 x, .int .u64 y, .int .u64 c]).run Try.prog w = .ok (.value (.tuple #[.int .u64 s, .int .u64 k])) w := by
  unfold Wd at hx hy
  obtain ⟨x, rfl⟩ := Int.eq_ofNat_of_zero_le hx.1
  obtain ⟨y, rfl⟩ := Int.eq_ofNat_of_zero_le hy.1
  obtain ⟨c, rfl⟩ := Int.eq_ofNat_of_zero_le hc0
  refine ⟨_, _, ?_, ?_, ?_, ?_, fun w => by
    rw [run_callFunc_extern Try.func37 (by kernel_rfl) (by kernel_rfl) (by kernel_rfl) (e := sub64Entry) (by kernel_rfl), run_sub64 x y c (by omega)]
    rfl⟩
  · exact ⟨by omega, by omega⟩
  · omega
  · split <;> omega
  · show _ = _
    split <;> omega

theorem wrap_in (n : Int) (h : Wd n) : IntKind.u64.wrap n = n := IntWalk.u64_in n (by unfold Wd at h; omega)

set_option maxHeartbeats 400000 in
theorem times_is (a b c d lo hi : Int) (w : World) (ha : Wd a) (hb : Wd b) (hc : Wd c) (hd : Wd d) (hlo : Wd lo) (hhi : Wd hi) (h : Hid (a * b + c + d = lo + 18446744073709551616 * hi)) :
    Calls Try.prog 56 #[.int .u64 a, .int .u64 b, .int .u64 c, .int .u64 d] w fun e w' => e = .returned (.tuple #[.int .u64 lo, .int .u64 hi]) ∧ w = w' := by
  obtain ⟨p, hp⟩ : ∃ p, p = a * b := ⟨_, rfl⟩
  have hp0 : 0 ≤ p := by rw [hp]; exact Int.mul_nonneg ha.1 hb.1
  have hp1 : p ≤ 18446744073709551615 * 18446744073709551615 := by
    rw [hp]
    exact Int.mul_le_mul (by have := ha.2; omega) (by have := hb.2; omega) hb.1 (by decide)
  have H2 : Hid (p + c + d = lo + 18446744073709551616 * hi) := by have := h.out; show _ = _; rw [← this, hp]
  obtain ⟨q, r, hr, hq, hpq⟩ : ∃ q r : Int, Wd r ∧ Wd q ∧ Hid (p = r + 18446744073709551616 * q) := ⟨p / 18446744073709551616, p % 18446744073709551616, ⟨by omega, by omega⟩, ⟨by omega, by omega⟩, by show _ = _; omega⟩
  have C : ∀ W, Calls Try.prog 57 #[.int .u64 a, .int .u64 b] W fun e w' => e = .returned (.tuple #[.int .u64 q, .int .u64 r]) ∧ W = w' := fun W => by
    refine (mul64_any a b ha.1 ha.2 hb.1 hb.2 W).mono ?_
    rintro e w' ⟨rfl, rfl⟩
    have h1 := hpq.out
    unfold Wd at hr hq
    refine ⟨?_, rfl⟩
    rw [← hp]
    have e1 : p / 18446744073709551616 = q := by omega
    have e2 : p % 18446744073709551616 = r := by omega
    rw [e1, e2]
  obtain ⟨s, k, hs, hk0, hk1, hsk, f1⟩ := run_add_ex r c 0 hr hc (by decide) (by decide)
  obtain ⟨s', k', hs', hk0', hk1', hsk', f2⟩ := run_add_ex s d 0 hs hd (by decide) (by decide)
  have g := hsk.out
  have g' := hsk'.out
  have gp := hpq.out
  have gq := H2.out
  unfold Wd at ha hb hc hd hlo hhi hr hq hs hs'
  have w1 : IntKind.u64.wrap (q + k) = q + k := wrap_in _ ⟨by omega, by omega⟩
  have e1 : s' = lo := by omega
  have e2 : q + k + k' = hi := by omega
  have w2 : IntKind.u64.wrap (q + k + k') = q + k + k' := wrap_in _ ⟨by omega, by omega⟩
  subst e1
  have E2 := Lib.hid e2
  clear g g' gp gq e2 hp hp0 hp1 H2 h hpq hsk hsk' ha hb hc hd hlo hhi hr hq hs hs'
  go_enter Try.func56, Try.ntmps56
  go_wp2_with (go_at_call 57; refine (C _).mono ?_; rintro e w' ⟨rfl, rfl⟩)
  go_ret2
  refine ⟨?_, rfl⟩
  show Ending.returned (.tuple #[.int .u64 s', .int .u64 (q + k + k')]) = _
  rw [E2.out]

/-! ### The element of a number below 2 p -/
theorem sel_no (a b : Int) (ha : Wd a) (hb : Wd b) : bits .xor .u64 a (bits .and .u64 0 (bits .xor .u64 a b)) = a := by
  unfold Wd at ha hb
  obtain ⟨a, rfl⟩ := Int.eq_ofNat_of_zero_le ha.1
  obtain ⟨b, rfl⟩ := Int.eq_ofNat_of_zero_le hb.1
  have hx : a ^^^ b < 2 ^ 64 := Nat.xor_lt_two_pow (by omega) (by omega)
  rw [bits_xor_u64_nat a b (by omega) (by omega)]
  have h0 := bits_and_u64_nat 0 (a ^^^ b) (by omega) (by omega)
  simp only [Int.natCast_zero, Nat.zero_and] at h0
  have h1 := bits_xor_u64_nat a 0 (by omega) (by omega)
  simp only [Int.natCast_zero, Nat.xor_zero] at h1
  show bits .xor .u64 a (bits .and .u64 0 _) = _
  rw [h0, h1]
theorem sel_yes (a b : Int) (ha : Wd a) (hb : Wd b) : bits .xor .u64 a (bits .and .u64 18446744073709551615 (bits .xor .u64 a b)) = b := by
  unfold Wd at ha hb
  obtain ⟨a, rfl⟩ := Int.eq_ofNat_of_zero_le ha.1
  obtain ⟨b, rfl⟩ := Int.eq_ofNat_of_zero_le hb.1
  have hx : a ^^^ b < 2 ^ 64 := Nat.xor_lt_two_pow (by omega) (by omega)
  rw [bits_xor_u64_nat a b (by omega) (by omega)]
  have h0 := bits_and_u64_nat 18446744073709551615 (a ^^^ b) (by omega) (by omega)
  have e : 18446744073709551615 &&& (a ^^^ b) = a ^^^ b := by
    rw [Nat.and_comm]
    have := Nat.and_two_pow_sub_one_eq_mod (a ^^^ b) 64
    rw [Nat.mod_eq_of_lt hx] at this
    exact this
  rw [e] at h0
  have h1 := bits_xor_u64_nat a (a ^^^ b) (by omega) (by omega)
  have e2 : a ^^^ (a ^^^ b) = b := by rw [← Nat.xor_assoc, Nat.xor_self, Nat.zero_xor]
  rw [e2] at h1
  have h0' : bits .and .u64 18446744073709551615 ((a ^^^ b : Nat) : Int) = ((a ^^^ b : Nat) : Int) := h0
  rw [h0', h1]
theorem low63 (a : Int) (ha : Wd a) : bits .and .u64 a 9223372036854775807 = a % 9223372036854775808 := by
  unfold Wd at ha
  obtain ⟨a, rfl⟩ := Int.eq_ofNat_of_zero_le ha.1
  have h := bits_and_u64_nat a 9223372036854775807 (by omega) (by omega)
  have e : a &&& 9223372036854775807 = a % 9223372036854775808 := Nat.and_two_pow_sub_one_eq_mod a 63
  rw [e] at h
  exact h

set_option maxHeartbeats 800000 in
theorem least_is (n0 n1 n2 n3 V v : Int) (w : World) (h0 : Wd n0) (h1 : Wd n1) (h2 : Wd n2) (h3 : Wd n3) (hV : Hid (wv n0 n1 n2 n3 = V ∧ V < 2 * pp ∧ V % pp = v)) :
    Calls Try.prog 36 #[.int .u64 n0, .int .u64 n1, .int .u64 n2, .int .u64 n3] w fun e w' => e = .returned (el v) ∧ Fr (fun _ => False) w w' := by
  obtain ⟨m0, c0, hm0, hc00, hc01, hs0, a0⟩ := run_add_ex n0 19 0 h0 ⟨by decide, by decide⟩ (by decide) (by decide)
  obtain ⟨m1, c1, hm1, hc10, hc11, hs1, a1⟩ := run_add_ex n1 0 c0 h1 ⟨by decide, by decide⟩ hc00 hc01
  obtain ⟨m2, c2, hm2, hc20, hc21, hs2, a2⟩ := run_add_ex n2 0 c1 h2 ⟨by decide, by decide⟩ hc10 hc11
  have hm3 : Wd (n3 + c2) ∧ (v = if n3 + c2 < 9223372036854775808 then V else V - pp) := by
    have q0 := hs0.out
    have q1 := hs1.out
    have q2 := hs2.out
    obtain ⟨e1, e2, e3⟩ := hV.out
    unfold Wd at *
    unfold wv at e1
    unfold pp at *
    constructor
    · constructor <;> omega
    · split <;> omega
  obtain ⟨hm3, hv⟩ := hm3
  have hw : IntKind.u64.wrap (n3 + c2) = n3 + c2 := wrap_in _ hm3
  by_cases hb : n3 + c2 < 9223372036854775808
  · rw [if_pos hb] at hv
    have hE : Hid (Ending.returned (.agg #[.int .u64 n0, .int .u64 n1, .int .u64 n2, .int .u64 n3]) = .returned (el v)) := by
      obtain ⟨e1, e2, e3⟩ := hV.out
      show _ = _
      rw [el_eq h0 h1 h2 h3 (by rw [e1, hv])]
    have hq : (n3 + c2) / 9223372036854775808 = 0 := by unfold Wd at hm3; omega
    have x0 := sel_no n0 m0 h0 hm0
    have x1 := sel_no n1 m1 h1 hm1
    have x2 := sel_no n2 m2 h2 hm2
    have x3 := sel_no n3 (n3 + c2) h3 hm3
    have x4 : bits .and .u64 n3 9223372036854775807 = n3 := by rw [low63 n3 h3]; unfold Wd at h3; omega
    have H := Lib.hid (And.intro h0 (And.intro h1 (And.intro h2 h3)))
    clear hs0 hs1 hs2 hV hv h0 h1 h2 h3 hm0 hm1 hm2 hm3 hb
    go_enter Try.func36, Try.ntmps36
    go_wp2
    refine bodyPost_ret (v := .agg #[.int .u64 n0, .int .u64 n1, .int .u64 n2, .int .u64 n3]) (by simp [results, Try.results36, go_sem]) rfl ?_
    exact ⟨hE.out, (Fr.refl _ _).alloc _⟩
  · rw [if_neg hb] at hv
    have hE : Hid (Ending.returned (.agg #[.int .u64 m0, .int .u64 m1, .int .u64 m2, .int .u64 ((n3 + c2) % 9223372036854775808)]) = .returned (el v)) := by
      have q0 := hs0.out
      have q1 := hs1.out
      have q2 := hs2.out
      obtain ⟨e1, e2, e3⟩ := hV.out
      unfold Wd at *
      show _ = _
      rw [el_eq (a := m0) (b := m1) (c := m2) (d := (n3 + c2) % 9223372036854775808) hm0 hm1 hm2 ⟨by omega, by omega⟩]
      rw [hv]
      unfold wv at *
      unfold pp at *
      omega
    have hw1 : IntKind.u64.wrap (-1) = 18446744073709551615 := by decide
    have hq : (n3 + c2) / 9223372036854775808 = 1 := by unfold Wd at hm3; omega
    have x0 := sel_yes n0 m0 h0 hm0
    have x1 := sel_yes n1 m1 h1 hm1
    have x2 := sel_yes n2 m2 h2 hm2
    have x3 := sel_yes n3 (n3 + c2) h3 hm3
    have x4 : bits .and .u64 (n3 + c2) 9223372036854775807 = (n3 + c2) % 9223372036854775808 := low63 _ hm3
    clear hs0 hs1 hs2 hV hv h0 h1 h2 h3 hm0 hm1 hm2 hm3 hb
    go_enter Try.func36, Try.ntmps36
    go_wp2
    refine bodyPost_ret (v := .agg #[.int .u64 m0, .int .u64 m1, .int .u64 m2, .int .u64 ((n3 + c2) % 9223372036854775808)]) (by simp [results, Try.results36, go_sem]) rfl ?_
    exact ⟨hE.out, (Fr.refl _ _).alloc _⟩
end Go.Proofs.Ytbkbodcncjhcmaa
