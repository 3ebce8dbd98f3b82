/- The Edwards curve x^2 + y^2 = 1 + d x^2 y^2 modulo 2^255 - 19, d = 121665 / 121666: sums are complete, stay on it, and may be taken together as one likes. Plain mathematics; no condition. -/
import Derived.Test.YtbkbodcncjhcmaaFermat
namespace Go.Proofs.Ytbkbodcncjhcmaa
set_option linter.unusedSimpArgs false
set_option linter.unusedVariables false

def ep : Int := 57896044618658097711785492504343953926634992332820282019728792003956564819949
def dd : Int := 20800338683988658368647408995589388737092878452977063003340006470870624536394
/-- Congruent modulo p. -/
def E (a b : Int) : Prop := ep ∣ a - b
section
variable {a b c a' b' : Int}
theorem E.refl (a : Int) : E a a := ⟨0, by omega⟩
theorem E.of_eq (h : a = b) : E a b := h ▸ E.refl a
theorem E.symm (h : E a b) : E b a := by
  obtain ⟨k, h⟩ := h
  exact ⟨-k, by rw [Int.mul_neg, ← h]; omega⟩
theorem E.trans (h : E a b) (h' : E b c) : E a c := by
  have := Int.dvd_add h h'
  rwa [show a - b + (b - c) = a - c by omega] at this
theorem E.add (h : E a a') (h' : E b b') : E (a + b) (a' + b') := by
  have := Int.dvd_add h h'
  rwa [show a - a' + (b - b') = a + b - (a' + b') by omega] at this
theorem E.sub (h : E a a') (h' : E b b') : E (a - b) (a' - b') := by
  have := Int.dvd_sub h h'
  rwa [show a - a' - (b - b') = a - b - (a' - b') by omega] at this
theorem E.mul (h : E a a') (h' : E b b') : E (a * b) (a' * b') := by
  have h1 : ep ∣ (a - a') * b := Int.dvd_mul_of_dvd_left h
  have h2 : ep ∣ a' * (b - b') := Int.dvd_mul_of_dvd_right h'
  have := Int.dvd_add h1 h2
  rwa [show (a - a') * b + a' * (b - b') = a * b - a' * b' by rw [Int.sub_mul, Int.mul_sub]; omega] at this
theorem E.sub_zero (h : E a b) : E (a - b) 0 := by unfold E at *; rwa [Int.sub_zero]
theorem E.of_sub (h : E (a - b) 0) : E a b := by unfold E at *; rwa [Int.sub_zero] at h
theorem E.zero_mul (h : E a 0) (b : Int) : E (a * b) 0 := by
  have := h.mul (E.refl b)
  rwa [Int.zero_mul] at this
theorem E.mul_zero (h : E b 0) (a : Int) : E (a * b) 0 := by
  have := (E.refl a).mul h
  rwa [Int.mul_zero] at this
theorem E.add0 (h : E a 0) (h' : E b 0) : E (a + b) 0 := h.add h'
theorem E.pow (h : E a b) : ∀ n : Nat, E (a ^ n) (b ^ n)
  | 0 => by rw [Int.pow_zero, Int.pow_zero]; exact E.refl 1
  | n + 1 => by rw [Int.pow_succ, Int.pow_succ]; exact (E.pow h n).mul h
end
theorem prime_p : Pr 57896044618658097711785492504343953926634992332820282019728792003956564819949 := fermat_p.1
theorem e_prime {a b : Int} (h : E (a * b) 0) : E a 0 ∨ E b 0 := by
  unfold E at *
  simp only [Int.sub_zero] at *
  have h1 := Int.natAbs_dvd_natAbs.2 h
  rw [Int.natAbs_mul] at h1
  rcases prime_p.euclid h1 with h2 | h2
  · exact .inl (Int.natAbs_dvd_natAbs.1 h2)
  · exact .inr (Int.natAbs_dvd_natAbs.1 h2)
theorem e_cancel {a b : Int} (ha : ¬ E a 0) (h : E (a * b) 0) : E b 0 := (e_prime h).resolve_left ha
theorem not_mul {a b : Int} (ha : ¬ E a 0) (hb : ¬ E b 0) : ¬ E (a * b) 0 := fun h => (e_prime h).elim ha hb
theorem not_lit (n : Int) (h : n % ep ≠ 0) : ¬ E n 0 := by
  unfold E
  rw [Int.sub_zero]
  exact fun h' => h (Int.emod_eq_zero_of_dvd h')
theorem e_emod (a : Int) : E (a % ep) a := by
  refine ⟨-(a / ep), ?_⟩
  have := Int.mul_ediv_add_emod a ep
  rw [Int.mul_neg]
  omega

/-! ### Fermat, in these words -/
def qq : Nat := 57896044618658097711785492504343953926634992332820282019728792003956564819947
def hh : Nat := 28948022309329048855892746252171976963317496166410141009864396001978282409974
theorem e_fermat {a : Int} (ha : ¬ E a 0) : E (a ^ (qq + 1)) 1 := by
  have h0 : 0 ≤ a % ep := Int.emod_nonneg a (by decide)
  have h1 : a % ep < ep := Int.emod_lt_of_pos a (by decide)
  obtain ⟨n, hn⟩ := Int.eq_ofNat_of_zero_le h0
  have hz : n ≠ 0 := by
    intro e
    apply ha
    have := e_emod a
    rw [hn, e] at this
    exact this.symm
  have hlt : (n : Int) < ep := hn ▸ h1
  unfold ep at hlt
  have hp := fermat_p.2 n (by omega) (by omega)
  have hk : qq + 1 = 57896044618658097711785492504343953926634992332820282019728792003956564819949 - 1 := by decide
  have h2 : E (((n ^ (qq + 1) : Nat) : Int)) 1 := by
    rw [hk]
    generalize hm : n ^ (57896044618658097711785492504343953926634992332820282019728792003956564819949 - 1) = m at hp
    unfold E ep
    omega
  refine ((e_emod a).symm.pow _).trans ?_
  rw [hn]
  have e : ((n : Int) ^ (qq + 1)) = ((n ^ (qq + 1) : Nat) : Int) := by simp
  rw [e]
  exact h2
def iv (a : Int) : Int := a ^ qq
theorem iv_ok {a : Int} (ha : ¬ E a 0) : E (a * iv a) 1 := by
  have := e_fermat ha
  rw [Int.pow_succ, Int.mul_comm] at this
  exact this

/-! ### d is no square -/
theorem pow_gen (b n : Nat) (h : pm 256 b n 57896044618658097711785492504343953926634992332820282019728792003956564819949 = 57896044618658097711785492504343953926634992332820282019728792003956564819948) (hn : n < 2 ^ 256) : E ((b : Int) ^ n) (-1) := by
  rw [pm_ok 256 _ _ _ hn] at h
  have e : (b : Int) ^ n = ((b ^ n : Nat) : Int) := by simp
  rw [e]
  generalize b ^ n = m at h
  unfold E ep
  omega
theorem dd_pow : E (dd ^ hh) (-1) := pow_gen 20800338683988658368647408995589388737092878452977063003340006470870624536394 hh (by decide +kernel) (by decide)
theorem not_one : ¬ E (-1) 1 := by
  unfold E ep
  decide
theorem not_dd : ¬ E dd 0 := not_lit _ (by decide)
theorem nonsq {A B : Int} (h : E (A * A) (dd * (B * B))) : E B 0 := by
  by_cases hB : E B 0
  · exact hB
  exfalso
  have hA : ¬ E A 0 := by
    intro hA
    have h1 : E (dd * (B * B)) 0 := h.symm.trans (hA.zero_mul A)
    exact not_mul not_dd (not_mul hB hB) h1
  have sq : ∀ x : Int, ¬ E x 0 → E ((x * x) ^ hh) 1 := by
    intro x hx
    have := e_fermat hx
    rw [show qq + 1 = hh + hh by decide, Int.pow_add, ← Int.mul_pow] at this
    exact this
  have h1 := h.pow hh
  rw [Int.mul_pow (a := dd)] at h1
  have h2 : E 1 (-1 * 1) := (sq A hA).symm.trans (h1.trans (dd_pow.mul (sq B hB)))
  rw [Int.mul_one] at h2
  exact not_one h2.symm

/-! ### Points -/
def On (x y : Int) : Prop := E (x * x + y * y - 1 - dd * x * x * y * y) 0
/-- The second point's sum with the first one. -/
structure Sum (x1 y1 x2 y2 x y : Int) : Prop where
  x : E (x * (1 + dd * x1 * x2 * y1 * y2)) (x1 * y2 + x2 * y1)
  y : E (y * (1 - dd * x1 * x2 * y1 * y2)) (y1 * y2 - x1 * x2)

theorem id_whole (d s x1 y1 x2 y2 : Int) (hs : s * s = 1) : (x1 + s * y1) * (x1 + s * y1) - d * ((x1 * y1 * (x2 + y2)) * (x1 * y1 * (x2 + y2))) =
    (x1 * x1 + y1 * y1 - 1 - d * x1 * x1 * y1 * y1) - (x2 * x2 + y2 * y2 - 1 - d * x2 * x2 * y2 * y2) * (d * x1 * x1 * y1 * y1) + (s - d * x1 * x2 * y1 * y2) * (s + d * x1 * x2 * y1 * y2 + 2 * x1 * y1) := by
  grind
theorem id_whole' (d s x1 y1 x2 y2 : Int) (hs : s * s = 1) : (x1 - s * y1) * (x1 - s * y1) - d * ((x1 * y1 * (x2 - y2)) * (x1 * y1 * (x2 - y2))) =
    (x1 * x1 + y1 * y1 - 1 - d * x1 * x1 * y1 * y1) - (x2 * x2 + y2 * y2 - 1 - d * x2 * x2 * y2 * y2) * (d * x1 * x1 * y1 * y1) + (s - d * x1 * x2 * y1 * y2) * (s + d * x1 * x2 * y1 * y2 - 2 * x1 * y1) := by
  grind
theorem complete (s : Int) (hs : s = 1 ∨ s = -1) {x1 y1 x2 y2 : Int} (h1 : On x1 y1) (h2 : On x2 y2) : ¬ E (s - dd * x1 * x2 * y1 * y2) 0 := by
  intro h
  have hss : s * s = 1 := by rcases hs with rfl | rfl <;> rfl
  have hns : ¬ E s 0 := by
    rcases hs with rfl | rfl
    · exact not_lit _ (by decide)
    · exact not_lit _ (by decide)
  have ht : ¬ E (dd * x1 * x2 * y1 * y2) 0 := fun h' => by
    have := h.add h'
    rw [Int.sub_add_cancel] at this
    exact hns this
  have k1 : E (x1 * y1 * (x2 + y2)) 0 := by
    refine nonsq (A := x1 + s * y1) (E.of_sub ?_)
    rw [id_whole dd s x1 y1 x2 y2 hss]
    exact (h1.sub (h2.zero_mul _)).add (h.zero_mul _)
  have k2 : E (x1 * y1 * (x2 - y2)) 0 := by
    refine nonsq (A := x1 - s * y1) (E.of_sub ?_)
    rw [id_whole' dd s x1 y1 x2 y2 hss]
    exact (h1.sub (h2.zero_mul _)).add (h.zero_mul _)
  have hxy : ¬ E (x1 * y1) 0 := fun h' => ht (by
    have := h'.zero_mul (dd * x2 * y2)
    rwa [show x1 * y1 * (dd * x2 * y2) = dd * x1 * x2 * y1 * y2 by grind] at this)
  have k3 := (e_cancel hxy k1).add (e_cancel hxy k2)
  have k4 : E (2 * x2) 0 := by rwa [show x2 + y2 + (x2 - y2) = 2 * x2 by omega] at k3
  have k5 := e_cancel (not_lit 2 (by decide)) k4
  exact ht (by
    have := k5.zero_mul (dd * x1 * y1 * y2)
    rwa [show x2 * (dd * x1 * y1 * y2) = dd * x1 * x2 * y1 * y2 by grind] at this)
theorem not_minus {x1 y1 x2 y2 : Int} (h1 : On x1 y1) (h2 : On x2 y2) : ¬ E (1 - dd * x1 * x2 * y1 * y2) 0 := complete 1 (.inl rfl) h1 h2
theorem not_plus {x1 y1 x2 y2 : Int} (h1 : On x1 y1) (h2 : On x2 y2) : ¬ E (1 + dd * x1 * x2 * y1 * y2) 0 := fun h => complete (-1) (.inr rfl) h1 h2 (by
  have := h.mul (E.refl (-1))
  rwa [show (1 + dd * x1 * x2 * y1 * y2) * -1 = -1 - dd * x1 * x2 * y1 * y2 by omega, Int.zero_mul] at this)

theorem sum_ex {x1 y1 x2 y2 : Int} (h1 : On x1 y1) (h2 : On x2 y2) : Sum x1 y1 x2 y2 ((x1 * y2 + x2 * y1) * iv (1 + dd * x1 * x2 * y1 * y2)) ((y1 * y2 - x1 * x2) * iv (1 - dd * x1 * x2 * y1 * y2)) := by
  refine ⟨?_, ?_⟩
  · have := (E.refl (x1 * y2 + x2 * y1)).mul (iv_ok (not_plus h1 h2))
    rw [Int.mul_one] at this
    rw [Int.mul_assoc, Int.mul_comm (iv _)]
    exact this
  · have := (E.refl (y1 * y2 - x1 * x2)).mul (iv_ok (not_minus h1 h2))
    rw [Int.mul_one] at this
    rw [Int.mul_assoc, Int.mul_comm (iv _)]
    exact this

/-! ### Sums stay on the curve -/
theorem id_closure (d x1 y1 x2 y2 : Int) : (x1 * y2 + x2 * y1) * (x1 * y2 + x2 * y1) * ((1 - d * x1 * x2 * y1 * y2) * (1 - d * x1 * x2 * y1 * y2)) + (y1 * y2 - x1 * x2) * (y1 * y2 - x1 * x2) * ((1 + d * x1 * x2 * y1 * y2) * (1 + d * x1 * x2 * y1 * y2)) - (1 + d * x1 * x2 * y1 * y2) * (1 + d * x1 * x2 * y1 * y2) * ((1 - d * x1 * x2 * y1 * y2) * (1 - d * x1 * x2 * y1 * y2)) - d * ((x1 * y2 + x2 * y1) * (x1 * y2 + x2 * y1)) * ((y1 * y2 - x1 * x2) * (y1 * y2 - x1 * x2)) =
    (x1 * x1 + y1 * y1 - 1 - d * x1 * x1 * y1 * y1) * (x1 * x1 * y1 * y1 * x2 * x2 * x2 * x2 * y2 * y2 * y2 * y2 * d * d * d + x1 * x1 * x2 * x2 * x2 * x2 * y2 * y2 * y2 * y2 * d * d - x1 * x1 * x2 * x2 * x2 * x2 * y2 * y2 * d - x1 * x1 * x2 * x2 * y2 * y2 * y2 * y2 * d + y1 * y1 * x2 * x2 * x2 * x2 * y2 * y2 * y2 * y2 * d * d - y1 * y1 * x2 * x2 * x2 * x2 * y2 * y2 * d - y1 * y1 * x2 * x2 * y2 * y2 * y2 * y2 * d - x2 * x2 * x2 * x2 * y2 * y2 * y2 * y2 * d * d + 2 * x2 * x2 * x2 * x2 * y2 * y2 * y2 * y2 * d - 2 * x2 * x2 * x2 * x2 * y2 * y2 + x2 * x2 * x2 * x2 - 2 * x2 * x2 * y2 * y2 * y2 * y2 - 2 * x2 * x2 * y2 * y2 * d + 4 * x2 * x2 * y2 * y2 + y2 * y2 * y2 * y2) + (x2 * x2 + y2 * y2 - 1 - d * x2 * x2 * y2 * y2) * (x1 * x1 * x1 * x1 * x2 * x2 * y2 * y2 * d - 2 * x1 * x1 * x2 * x2 * y2 * y2 * d + 2 * x1 * x1 * x2 * x2 * y2 * y2 - x1 * x1 * x2 * x2 - x1 * x1 * y2 * y2 + y1 * y1 * y1 * y1 * x2 * x2 * y2 * y2 * d - 2 * y1 * y1 * x2 * x2 * y2 * y2 * d + 2 * y1 * y1 * x2 * x2 * y2 * y2 - y1 * y1 * x2 * x2 - y1 * y1 * y2 * y2 + x2 * x2 * y2 * y2 * d - 2 * x2 * x2 * y2 * y2 + x2 * x2 + y2 * y2 + 1) := by
  grind
theorem id_close (d x y X Y : Int) : X * X * (Y * Y) * (x * x + y * y - 1 - d * x * x * y * y) = (x * X) * (x * X) * (Y * Y) + (y * Y) * (y * Y) * (X * X) - X * X * (Y * Y) - d * ((x * X) * (x * X)) * ((y * Y) * (y * Y)) := by
  grind
theorem Sum.on {x1 y1 x2 y2 x y : Int} (h : Sum x1 y1 x2 y2 x y) (h1 : On x1 y1) (h2 : On x2 y2) : On x y := by
  have n1 := not_plus h1 h2
  have n2 := not_minus h1 h2
  refine e_cancel (not_mul (not_mul n1 n1) (not_mul n2 n2)) ?_
  rw [id_close]
  have hx := h.x.mul h.x
  have hy := h.y.mul h.y
  refine (((hx.mul (E.refl _)).add (hy.mul (E.refl _))).sub (E.refl _)).sub (((E.refl dd).mul hx).mul hy) |>.trans ?_
  rw [id_closure]
  exact (E.zero_mul h1 _).add0 (E.zero_mul h2 _)

/-! ### Sums may be taken together as one likes -/
theorem id_ax1 (d x1 y1 x3 y3 x12 y12 x23 y23 Dx Dy Ex Ey : Int) : Dx * Dy * (Ex * Ey) * ((x12 * y3 + x3 * y12) * (1 + d * x1 * x23 * y1 * y23) - (x1 * y23 + x23 * y1) * (1 + d * x12 * x3 * y12 * y3)) = ((x12 * Dx) * y3 * Dy + x3 * (y12 * Dy) * Dx) * (Ex * Ey + d * x1 * y1 * (x23 * Ex) * (y23 * Ey)) - (x1 * (y23 * Ey) * Ex + (x23 * Ex) * y1 * Ey) * (Dx * Dy + d * x3 * y3 * (x12 * Dx) * (y12 * Dy)) := by
  grind
theorem id_ax2 (d x1 y1 x2 y2 x3 y3 : Int) : ((x1 * y2 + x2 * y1) * y3 * (1 - d * x1 * x2 * y1 * y2) + x3 * (y1 * y2 - x1 * x2) * (1 + d * x1 * x2 * y1 * y2)) * ((1 + d * x2 * x3 * y2 * y3) * (1 - d * x2 * x3 * y2 * y3) + d * x1 * y1 * (x2 * y3 + x3 * y2) * (y2 * y3 - x2 * x3)) - (x1 * (y2 * y3 - x2 * x3) * (1 + d * x2 * x3 * y2 * y3) + (x2 * y3 + x3 * y2) * y1 * (1 - d * x2 * x3 * y2 * y3)) * ((1 + d * x1 * x2 * y1 * y2) * (1 - d * x1 * x2 * y1 * y2) + d * x3 * y3 * (x1 * y2 + x2 * y1) * (y1 * y2 - x1 * x2)) =
    (x1 * x1 + y1 * y1 - 1 - d * x1 * x1 * y1 * y1) * (x1 * x2 * x2 * x2 * x2 * y2 * y2 * y2 * x3 * x3 * y3 * d * d - x1 * x2 * x2 * x2 * x2 * y2 * x3 * x3 * y3 * d - x1 * x2 * x2 * x2 * y2 * y2 * y2 * y2 * x3 * y3 * y3 * d * d - x1 * x2 * x2 * x2 * y2 * y2 * x3 * x3 * x3 * d + x1 * x2 * x2 * x2 * y2 * y2 * x3 * d + x1 * x2 * x2 * y2 * y2 * y2 * y3 * y3 * y3 * d - x1 * x2 * x2 * y2 * y2 * y2 * y3 * d + x1 * x2 * y2 * y2 * y2 * y2 * x3 * y3 * y3 * d + y1 * x2 * x2 * x2 * x2 * y2 * y2 * y2 * x3 * y3 * y3 * d * d - y1 * x2 * x2 * x2 * x2 * y2 * x3 * y3 * y3 * d + y1 * x2 * x2 * x2 * y2 * y2 * y2 * y2 * x3 * x3 * y3 * d * d + y1 * x2 * x2 * x2 * y2 * y2 * y3 * y3 * y3 * d - y1 * x2 * x2 * x2 * y2 * y2 * y3 * d + y1 * x2 * x2 * y2 * y2 * y2 * x3 * x3 * x3 * d - y1 * x2 * x2 * y2 * y2 * y2 * x3 * d - y1 * x2 * y2 * y2 * y2 * y2 * x3 * x3 * y3 * d) + (x2 * x2 + y2 * y2 - 1 - d * x2 * x2 * y2 * y2) * (x1 * x1 * x1 * x2 * x2 * y2 * x3 * x3 * y3 * d - x1 * x1 * x1 * x2 * y2 * y2 * x3 * y3 * y3 * d + x1 * x1 * x1 * x2 * x3 * x3 * x3 * y3 * y3 * d - x1 * x1 * x1 * x2 * x3 * x3 * x3 - x1 * x1 * x1 * x2 * x3 * y3 * y3 + x1 * x1 * x1 * x2 * x3 - x1 * x1 * x1 * y2 * x3 * x3 * y3 * y3 * y3 * d + x1 * x1 * x1 * y2 * x3 * x3 * y3 + x1 * x1 * x1 * y2 * y3 * y3 * y3 - x1 * x1 * x1 * y2 * y3 - x1 * x1 * y1 * x2 * x2 * y2 * x3 * x3 * x3 * y3 * y3 * d * d + x1 * x1 * y1 * x2 * x2 * y2 * x3 * y3 * y3 * d - x1 * x1 * y1 * x2 * y2 * y2 * x3 * x3 * y3 * y3 * y3 * d * d + x1 * x1 * y1 * x2 * y2 * y2 * x3 * x3 * y3 * d - x1 * x1 * y1 * x2 * x3 * x3 * y3 * y3 * y3 * d + x1 * x1 * y1 * x2 * x3 * x3 * y3 + x1 * x1 * y1 * x2 * y3 * y3 * y3 - x1 * x1 * y1 * x2 * y3 - x1 * x1 * y1 * y2 * x3 * x3 * x3 * y3 * y3 * d + x1 * x1 * y1 * y2 * x3 * x3 * x3 + x1 * x1 * y1 * y2 * x3 * y3 * y3 - x1 * x1 * y1 * y2 * x3 - x1 * y1 * y1 * x2 * x2 * y2 * x3 * x3 * y3 * y3 * y3 * d * d + x1 * y1 * y1 * x2 * x2 * y2 * x3 * x3 * y3 * d + x1 * y1 * y1 * x2 * y2 * y2 * x3 * x3 * x3 * y3 * y3 * d * d - x1 * y1 * y1 * x2 * y2 * y2 * x3 * y3 * y3 * d + x1 * y1 * y1 * x2 * x3 * x3 * x3 * y3 * y3 * d - x1 * y1 * y1 * x2 * x3 * x3 * x3 - x1 * y1 * y1 * x2 * x3 * y3 * y3 + x1 * y1 * y1 * x2 * x3 - x1 * y1 * y1 * y2 * x3 * x3 * y3 * y3 * y3 * d + x1 * y1 * y1 * y2 * x3 * x3 * y3 + x1 * y1 * y1 * y2 * y3 * y3 * y3 - x1 * y1 * y1 * y2 * y3 - x1 * x2 * x2 * y2 * x3 * x3 * y3 * d + x1 * x2 * y2 * y2 * x3 * y3 * y3 * d - x1 * x2 * x3 * x3 * x3 * y3 * y3 * d + x1 * x2 * x3 * x3 * x3 + x1 * x2 * x3 * y3 * y3 - x1 * x2 * x3 + x1 * y2 * x3 * x3 * y3 * y3 * y3 * d - x1 * y2 * x3 * x3 * y3 - x1 * y2 * y3 * y3 * y3 + x1 * y2 * y3 + y1 * y1 * y1 * x2 * x2 * y2 * x3 * y3 * y3 * d + y1 * y1 * y1 * x2 * y2 * y2 * x3 * x3 * y3 * d - y1 * y1 * y1 * x2 * x3 * x3 * y3 * y3 * y3 * d + y1 * y1 * y1 * x2 * x3 * x3 * y3 + y1 * y1 * y1 * x2 * y3 * y3 * y3 - y1 * y1 * y1 * x2 * y3 - y1 * y1 * y1 * y2 * x3 * x3 * x3 * y3 * y3 * d + y1 * y1 * y1 * y2 * x3 * x3 * x3 + y1 * y1 * y1 * y2 * x3 * y3 * y3 - y1 * y1 * y1 * y2 * x3 - y1 * x2 * x2 * y2 * x3 * y3 * y3 * d - y1 * x2 * y2 * y2 * x3 * x3 * y3 * d + y1 * x2 * x3 * x3 * y3 * y3 * y3 * d - y1 * x2 * x3 * x3 * y3 - y1 * x2 * y3 * y3 * y3 + y1 * x2 * y3 + y1 * y2 * x3 * x3 * x3 * y3 * y3 * d - y1 * y2 * x3 * x3 * x3 - y1 * y2 * x3 * y3 * y3 + y1 * y2 * x3) + (x3 * x3 + y3 * y3 - 1 - d * x3 * x3 * y3 * y3) * (x1 * x1 * x1 * x2 * x2 * x2 * x3 - x1 * x1 * x1 * x2 * x2 * y2 * y3 + x1 * x1 * x1 * x2 * y2 * y2 * x3 - x1 * x1 * x1 * x2 * x3 - x1 * x1 * x1 * y2 * y2 * y2 * y3 + x1 * x1 * x1 * y2 * y3 - x1 * x1 * y1 * x2 * x2 * x2 * y3 + x1 * x1 * y1 * x2 * x2 * y2 * x3 * d - x1 * x1 * y1 * x2 * x2 * y2 * x3 + x1 * x1 * y1 * x2 * y2 * y2 * y3 * d - x1 * x1 * y1 * x2 * y2 * y2 * y3 + x1 * x1 * y1 * x2 * y3 - x1 * x1 * y1 * y2 * y2 * y2 * x3 + x1 * x1 * y1 * y2 * x3 + x1 * y1 * y1 * x2 * x2 * x2 * x3 + x1 * y1 * y1 * x2 * x2 * y2 * y3 * d - x1 * y1 * y1 * x2 * x2 * y2 * y3 - x1 * y1 * y1 * x2 * y2 * y2 * x3 * d + x1 * y1 * y1 * x2 * y2 * y2 * x3 - x1 * y1 * y1 * x2 * x3 - x1 * y1 * y1 * y2 * y2 * y2 * y3 + x1 * y1 * y1 * y2 * y3 - x1 * x2 * x2 * x2 * x3 + x1 * x2 * x2 * y2 * y3 - x1 * x2 * y2 * y2 * x3 + x1 * x2 * x3 + x1 * y2 * y2 * y2 * y3 - x1 * y2 * y3 - y1 * y1 * y1 * x2 * x2 * x2 * y3 - y1 * y1 * y1 * x2 * x2 * y2 * x3 - y1 * y1 * y1 * x2 * y2 * y2 * y3 + y1 * y1 * y1 * x2 * y3 - y1 * y1 * y1 * y2 * y2 * y2 * x3 + y1 * y1 * y1 * y2 * x3 + y1 * x2 * x2 * x2 * y3 + y1 * x2 * x2 * y2 * x3 + y1 * x2 * y2 * y2 * y3 - y1 * x2 * y3 + y1 * y2 * y2 * y2 * x3 - y1 * y2 * x3) := by
  grind
theorem assoc_x {x1 y1 x2 y2 x3 y3 x12 y12 x23 y23 x y : Int} (p1 : On x1 y1) (p2 : On x2 y2) (p3 : On x3 y3) (h1 : Sum x1 y1 x2 y2 x12 y12) (h2 : Sum x2 y2 x3 y3 x23 y23) (h3 : Sum x12 y12 x3 y3 x y) :
    E (x * (1 + dd * x1 * x23 * y1 * y23)) (x1 * y23 + x23 * y1) := by
  have p12 := h1.on p1 p2
  have nT := not_plus p12 p3
  have n1 := not_plus p1 p2
  have n2 := not_minus p1 p2
  have n3 := not_plus p2 p3
  have n4 := not_minus p2 p3
  refine E.of_sub (e_cancel (not_mul (not_mul (not_mul n1 n2) (not_mul n3 n4)) nT) ?_)
  have e1 := h3.x.mul (E.refl (1 + dd * x1 * x23 * y1 * y23))
  have e2 := (E.refl ((1 + dd * x1 * x2 * y1 * y2) * (1 - dd * x1 * x2 * y1 * y2) * ((1 + dd * x2 * x3 * y2 * y3) * (1 - dd * x2 * x3 * y2 * y3)))).mul (e1.sub (E.refl ((x1 * y23 + x23 * y1) * (1 + dd * x12 * x3 * y12 * y3))))
  rw [id_ax1] at e2
  have ha := h1.x
  have hb := h1.y
  have hc := h2.x
  have hf := h2.y
  have e3 := e2.trans (((((ha.mul (E.refl _)).mul (E.refl _)).add (((E.refl _).mul hb).mul (E.refl _))).mul ((E.refl _).add (((E.refl _).mul hc).mul hf))).sub (((((E.refl _).mul hf).mul (E.refl _)).add ((hc.mul (E.refl _)).mul (E.refl _))).mul ((E.refl _).add (((E.refl _).mul ha).mul hb))))
  rw [id_ax2] at e3
  have e4 := e3.trans (((E.zero_mul p1 _).add0 (E.zero_mul p2 _)).add0 (E.zero_mul p3 _))
  refine (E.of_eq ?_).trans e4
  generalize (1 + dd * x1 * x2 * y1 * y2) * (1 - dd * x1 * x2 * y1 * y2) * ((1 + dd * x2 * x3 * y2 * y3) * (1 - dd * x2 * x3 * y2 * y3)) = M
  generalize (1 + dd * x12 * x3 * y12 * y3) = T
  generalize (1 + dd * x1 * x23 * y1 * y23) = U
  grind
theorem id_ay1 (d x1 y1 x3 y3 x12 y12 x23 y23 Dx Dy Ex Ey : Int) : Dx * Dy * (Ex * Ey) * ((y12 * y3 - x12 * x3) * (1 - d * x1 * x23 * y1 * y23) - (y1 * y23 - x1 * x23) * (1 - d * x12 * x3 * y12 * y3)) = ((y12 * Dy) * y3 * Dx - (x12 * Dx) * x3 * Dy) * (Ex * Ey - d * x1 * y1 * (x23 * Ex) * (y23 * Ey)) - (y1 * (y23 * Ey) * Ex - x1 * (x23 * Ex) * Ey) * (Dx * Dy - d * x3 * y3 * (x12 * Dx) * (y12 * Dy)) := by
  grind
theorem id_ay2 (d x1 y1 x2 y2 x3 y3 : Int) : ((y1 * y2 - x1 * x2) * y3 * (1 + d * x1 * x2 * y1 * y2) - (x1 * y2 + x2 * y1) * x3 * (1 - d * x1 * x2 * y1 * y2)) * ((1 + d * x2 * x3 * y2 * y3) * (1 - d * x2 * x3 * y2 * y3) - d * x1 * y1 * (x2 * y3 + x3 * y2) * (y2 * y3 - x2 * x3)) - (y1 * (y2 * y3 - x2 * x3) * (1 + d * x2 * x3 * y2 * y3) - x1 * (x2 * y3 + x3 * y2) * (1 - d * x2 * x3 * y2 * y3)) * ((1 + d * x1 * x2 * y1 * y2) * (1 - d * x1 * x2 * y1 * y2) - d * x3 * y3 * (x1 * y2 + x2 * y1) * (y1 * y2 - x1 * x2)) =
    (x1 * x1 + y1 * y1 - 1 - d * x1 * x1 * y1 * y1) * (-x1 * x2 * x2 * x2 * x2 * y2 * y2 * y2 * x3 * y3 * y3 * d * d + x1 * x2 * x2 * x2 * x2 * y2 * x3 * y3 * y3 * d - x1 * x2 * x2 * x2 * y2 * y2 * y2 * y2 * x3 * x3 * y3 * d * d - x1 * x2 * x2 * x2 * y2 * y2 * y3 * y3 * y3 * d + x1 * x2 * x2 * x2 * y2 * y2 * y3 * d - x1 * x2 * x2 * y2 * y2 * y2 * x3 * x3 * x3 * d + x1 * x2 * x2 * y2 * y2 * y2 * x3 * d + x1 * x2 * y2 * y2 * y2 * y2 * x3 * x3 * y3 * d + y1 * x2 * x2 * x2 * x2 * y2 * y2 * y2 * x3 * x3 * y3 * d * d - y1 * x2 * x2 * x2 * x2 * y2 * x3 * x3 * y3 * d - y1 * x2 * x2 * x2 * y2 * y2 * y2 * y2 * x3 * y3 * y3 * d * d - y1 * x2 * x2 * x2 * y2 * y2 * x3 * x3 * x3 * d + y1 * x2 * x2 * x2 * y2 * y2 * x3 * d + y1 * x2 * x2 * y2 * y2 * y2 * y3 * y3 * y3 * d - y1 * x2 * x2 * y2 * y2 * y2 * y3 * d + y1 * x2 * y2 * y2 * y2 * y2 * x3 * y3 * y3 * d) + (x2 * x2 + y2 * y2 - 1 - d * x2 * x2 * y2 * y2) * (-x1 * x1 * x1 * x2 * x2 * y2 * x3 * y3 * y3 * d - x1 * x1 * x1 * x2 * y2 * y2 * x3 * x3 * y3 * d + x1 * x1 * x1 * x2 * x3 * x3 * y3 * y3 * y3 * d - x1 * x1 * x1 * x2 * x3 * x3 * y3 - x1 * x1 * x1 * x2 * y3 * y3 * y3 + x1 * x1 * x1 * x2 * y3 + x1 * x1 * x1 * y2 * x3 * x3 * x3 * y3 * y3 * d - x1 * x1 * x1 * y2 * x3 * x3 * x3 - x1 * x1 * x1 * y2 * x3 * y3 * y3 + x1 * x1 * x1 * y2 * x3 - x1 * x1 * y1 * x2 * x2 * y2 * x3 * x3 * y3 * y3 * y3 * d * d + x1 * x1 * y1 * x2 * x2 * y2 * x3 * x3 * y3 * d + x1 * x1 * y1 * x2 * y2 * y2 * x3 * x3 * x3 * y3 * y3 * d * d - x1 * x1 * y1 * x2 * y2 * y2 * x3 * y3 * y3 * d + x1 * x1 * y1 * x2 * x3 * x3 * x3 * y3 * y3 * d - x1 * x1 * y1 * x2 * x3 * x3 * x3 - x1 * x1 * y1 * x2 * x3 * y3 * y3 + x1 * x1 * y1 * x2 * x3 - x1 * x1 * y1 * y2 * x3 * x3 * y3 * y3 * y3 * d + x1 * x1 * y1 * y2 * x3 * x3 * y3 + x1 * x1 * y1 * y2 * y3 * y3 * y3 - x1 * x1 * y1 * y2 * y3 + x1 * y1 * y1 * x2 * x2 * y2 * x3 * x3 * x3 * y3 * y3 * d * d - x1 * y1 * y1 * x2 * x2 * y2 * x3 * y3 * y3 * d + x1 * y1 * y1 * x2 * y2 * y2 * x3 * x3 * y3 * y3 * y3 * d * d - x1 * y1 * y1 * x2 * y2 * y2 * x3 * x3 * y3 * d + x1 * y1 * y1 * x2 * x3 * x3 * y3 * y3 * y3 * d - x1 * y1 * y1 * x2 * x3 * x3 * y3 - x1 * y1 * y1 * x2 * y3 * y3 * y3 + x1 * y1 * y1 * x2 * y3 + x1 * y1 * y1 * y2 * x3 * x3 * x3 * y3 * y3 * d - x1 * y1 * y1 * y2 * x3 * x3 * x3 - x1 * y1 * y1 * y2 * x3 * y3 * y3 + x1 * y1 * y1 * y2 * x3 + x1 * x2 * x2 * y2 * x3 * y3 * y3 * d + x1 * x2 * y2 * y2 * x3 * x3 * y3 * d - x1 * x2 * x3 * x3 * y3 * y3 * y3 * d + x1 * x2 * x3 * x3 * y3 + x1 * x2 * y3 * y3 * y3 - x1 * x2 * y3 - x1 * y2 * x3 * x3 * x3 * y3 * y3 * d + x1 * y2 * x3 * x3 * x3 + x1 * y2 * x3 * y3 * y3 - x1 * y2 * x3 + y1 * y1 * y1 * x2 * x2 * y2 * x3 * x3 * y3 * d - y1 * y1 * y1 * x2 * y2 * y2 * x3 * y3 * y3 * d + y1 * y1 * y1 * x2 * x3 * x3 * x3 * y3 * y3 * d - y1 * y1 * y1 * x2 * x3 * x3 * x3 - y1 * y1 * y1 * x2 * x3 * y3 * y3 + y1 * y1 * y1 * x2 * x3 - y1 * y1 * y1 * y2 * x3 * x3 * y3 * y3 * y3 * d + y1 * y1 * y1 * y2 * x3 * x3 * y3 + y1 * y1 * y1 * y2 * y3 * y3 * y3 - y1 * y1 * y1 * y2 * y3 - y1 * x2 * x2 * y2 * x3 * x3 * y3 * d + y1 * x2 * y2 * y2 * x3 * y3 * y3 * d - y1 * x2 * x3 * x3 * x3 * y3 * y3 * d + y1 * x2 * x3 * x3 * x3 + y1 * x2 * x3 * y3 * y3 - y1 * x2 * x3 + y1 * y2 * x3 * x3 * y3 * y3 * y3 * d - y1 * y2 * x3 * x3 * y3 - y1 * y2 * y3 * y3 * y3 + y1 * y2 * y3) + (x3 * x3 + y3 * y3 - 1 - d * x3 * x3 * y3 * y3) * (x1 * x1 * x1 * x2 * x2 * x2 * y3 + x1 * x1 * x1 * x2 * x2 * y2 * x3 + x1 * x1 * x1 * x2 * y2 * y2 * y3 - x1 * x1 * x1 * x2 * y3 + x1 * x1 * x1 * y2 * y2 * y2 * x3 - x1 * x1 * x1 * y2 * x3 + x1 * x1 * y1 * x2 * x2 * x2 * x3 + x1 * x1 * y1 * x2 * x2 * y2 * y3 * d - x1 * x1 * y1 * x2 * x2 * y2 * y3 - x1 * x1 * y1 * x2 * y2 * y2 * x3 * d + x1 * x1 * y1 * x2 * y2 * y2 * x3 - x1 * x1 * y1 * x2 * x3 - x1 * x1 * y1 * y2 * y2 * y2 * y3 + x1 * x1 * y1 * y2 * y3 + x1 * y1 * y1 * x2 * x2 * x2 * y3 - x1 * y1 * y1 * x2 * x2 * y2 * x3 * d + x1 * y1 * y1 * x2 * x2 * y2 * x3 - x1 * y1 * y1 * x2 * y2 * y2 * y3 * d + x1 * y1 * y1 * x2 * y2 * y2 * y3 - x1 * y1 * y1 * x2 * y3 + x1 * y1 * y1 * y2 * y2 * y2 * x3 - x1 * y1 * y1 * y2 * x3 - x1 * x2 * x2 * x2 * y3 - x1 * x2 * x2 * y2 * x3 - x1 * x2 * y2 * y2 * y3 + x1 * x2 * y3 - x1 * y2 * y2 * y2 * x3 + x1 * y2 * x3 + y1 * y1 * y1 * x2 * x2 * x2 * x3 - y1 * y1 * y1 * x2 * x2 * y2 * y3 + y1 * y1 * y1 * x2 * y2 * y2 * x3 - y1 * y1 * y1 * x2 * x3 - y1 * y1 * y1 * y2 * y2 * y2 * y3 + y1 * y1 * y1 * y2 * y3 - y1 * x2 * x2 * x2 * x3 + y1 * x2 * x2 * y2 * y3 - y1 * x2 * y2 * y2 * x3 + y1 * x2 * x3 + y1 * y2 * y2 * y2 * y3 - y1 * y2 * y3) := by
  grind
theorem assoc_y {x1 y1 x2 y2 x3 y3 x12 y12 x23 y23 x y : Int} (p1 : On x1 y1) (p2 : On x2 y2) (p3 : On x3 y3) (h1 : Sum x1 y1 x2 y2 x12 y12) (h2 : Sum x2 y2 x3 y3 x23 y23) (h3 : Sum x12 y12 x3 y3 x y) :
    E (y * (1 - dd * x1 * x23 * y1 * y23)) (y1 * y23 - x1 * x23) := by
  have p12 := h1.on p1 p2
  have nT := not_minus p12 p3
  have n1 := not_plus p1 p2
  have n2 := not_minus p1 p2
  have n3 := not_plus p2 p3
  have n4 := not_minus p2 p3
  refine E.of_sub (e_cancel (not_mul (not_mul (not_mul n1 n2) (not_mul n3 n4)) nT) ?_)
  have e1 := h3.y.mul (E.refl (1 - dd * x1 * x23 * y1 * y23))
  have e2 := (E.refl ((1 + dd * x1 * x2 * y1 * y2) * (1 - dd * x1 * x2 * y1 * y2) * ((1 + dd * x2 * x3 * y2 * y3) * (1 - dd * x2 * x3 * y2 * y3)))).mul (e1.sub (E.refl ((y1 * y23 - x1 * x23) * (1 - dd * x12 * x3 * y12 * y3))))
  rw [id_ay1] at e2
  have ha := h1.x
  have hb := h1.y
  have hc := h2.x
  have hf := h2.y
  have e3 := e2.trans (((((hb.mul (E.refl _)).mul (E.refl _)).sub ((ha.mul (E.refl _)).mul (E.refl _))).mul ((E.refl _).sub (((E.refl _).mul hc).mul hf))).sub (((((E.refl _).mul hf).mul (E.refl _)).sub (((E.refl _).mul hc).mul (E.refl _))).mul ((E.refl _).sub (((E.refl _).mul ha).mul hb))))
  rw [id_ay2] at e3
  have e4 := e3.trans (((E.zero_mul p1 _).add0 (E.zero_mul p2 _)).add0 (E.zero_mul p3 _))
  refine (E.of_eq ?_).trans e4
  generalize (1 + dd * x1 * x2 * y1 * y2) * (1 - dd * x1 * x2 * y1 * y2) * ((1 + dd * x2 * x3 * y2 * y3) * (1 - dd * x2 * x3 * y2 * y3)) = M
  generalize (1 - dd * x12 * x3 * y12 * y3) = T
  generalize (1 - dd * x1 * x23 * y1 * y23) = U
  grind
theorem Sum.assoc {x1 y1 x2 y2 x3 y3 x12 y12 x23 y23 x y : Int} (p1 : On x1 y1) (p2 : On x2 y2) (p3 : On x3 y3) (h1 : Sum x1 y1 x2 y2 x12 y12) (h2 : Sum x2 y2 x3 y3 x23 y23) (h3 : Sum x12 y12 x3 y3 x y) : Sum x1 y1 x23 y23 x y :=
  ⟨assoc_x p1 p2 p3 h1 h2 h3, assoc_y p1 p2 p3 h1 h2 h3⟩

/-! ### Differences -/
theorem id_sub1 (d x1 y1 y2 x12 y12 Dx Dy : Int) : Dx * Dy * (y2 * (1 + d * x12 * x1 * y12 * y1) - (y12 * y1 + x12 * x1)) = y2 * (Dx * Dy + d * (x12 * Dx) * (y12 * Dy) * x1 * y1) - ((y12 * Dy) * y1 * Dx + (x12 * Dx) * x1 * Dy) := by
  grind
theorem id_sub2 (d x1 y1 x2 y2 : Int) : y2 * ((1 + d * x1 * x2 * y1 * y2) * (1 - d * x1 * x2 * y1 * y2) + d * (x1 * y2 + x2 * y1) * (y1 * y2 - x1 * x2) * x1 * y1) - ((y1 * y2 - x1 * x2) * y1 * (1 + d * x1 * x2 * y1 * y2) + (x1 * y2 + x2 * y1) * x1 * (1 - d * x1 * x2 * y1 * y2)) =
    (x1 * x1 + y1 * y1 - 1 - d * x1 * x1 * y1 * y1) * (x2 * x2 * y2 * y2 * y2 * d - x2 * x2 * y2 - y2 * y2 * y2) + (x2 * x2 + y2 * y2 - 1 - d * x2 * x2 * y2 * y2) * (x1 * x1 * y2 + y1 * y1 * y2 - y2) := by
  grind
theorem Sum.back {x1 y1 x2 y2 x12 y12 : Int} (p1 : On x1 y1) (p2 : On x2 y2) (h : Sum x1 y1 x2 y2 x12 y12) : E (y2 * (1 + dd * x12 * x1 * y12 * y1)) (y12 * y1 + x12 * x1) := by
  refine E.of_sub (e_cancel (not_mul (not_plus p1 p2) (not_minus p1 p2)) ?_)
  rw [id_sub1]
  have ha := h.x
  have hb := h.y
  have e := ((E.refl y2).mul ((E.refl ((1 + dd * x1 * x2 * y1 * y2) * (1 - dd * x1 * x2 * y1 * y2))).add (((((E.refl dd).mul ha).mul hb).mul (E.refl x1)).mul (E.refl y1)))).sub (((hb.mul (E.refl y1)).mul (E.refl (1 + dd * x1 * x2 * y1 * y2))).add ((ha.mul (E.refl x1)).mul (E.refl (1 - dd * x1 * x2 * y1 * y2))))
  rw [id_sub2] at e
  exact e.trans ((E.zero_mul p1 _).add0 (E.zero_mul p2 _))
theorem id_da1 (y1 y2 ys yd Dx Dy : Int) : Dy * Dx * ((1 - ys) * (1 - yd) * ((y1 + y2) * (y1 + y2)) - (1 + ys) * (1 + yd) * ((y1 - y2) * (y1 - y2))) = (Dy - ys * Dy) * (Dx - yd * Dx) * ((y1 + y2) * (y1 + y2)) - (Dy + ys * Dy) * (Dx + yd * Dx) * ((y1 - y2) * (y1 - y2)) := by
  grind
theorem id_da2 (d x1 y1 x2 y2 : Int) : ((1 - d * x1 * x2 * y1 * y2) - (y1 * y2 - x1 * x2)) * ((1 + d * x1 * x2 * y1 * y2) - (y1 * y2 + x1 * x2)) * ((y1 + y2) * (y1 + y2)) - ((1 - d * x1 * x2 * y1 * y2) + (y1 * y2 - x1 * x2)) * ((1 + d * x1 * x2 * y1 * y2) + (y1 * y2 + x1 * x2)) * ((y1 - y2) * (y1 - y2)) =
    (x1 * x1 + y1 * y1 - 1 - d * x1 * x1 * y1 * y1) * (4 * y1 * x2 * x2 * y2 * y2 * y2 * d - 4 * y1 * x2 * x2 * y2) + (x2 * x2 + y2 * y2 - 1 - d * x2 * x2 * y2 * y2) * (4 * y1 * y1 * y1 * y2 - 4 * y1 * y2) := by
  grind
/-- The sum's and the difference's second coordinates. -/
theorem diffadd {x1 y1 x2 y2 ys yd : Int} (p1 : On x1 y1) (p2 : On x2 y2) (hs : E (ys * (1 - dd * x1 * x2 * y1 * y2)) (y1 * y2 - x1 * x2)) (hd : E (yd * (1 + dd * x1 * x2 * y1 * y2)) (y1 * y2 + x1 * x2)) :
    E ((1 - ys) * (1 - yd) * ((y1 + y2) * (y1 + y2))) ((1 + ys) * (1 + yd) * ((y1 - y2) * (y1 - y2))) := by
  refine E.of_sub (e_cancel (not_mul (not_minus p1 p2) (not_plus p1 p2)) ?_)
  rw [id_da1]
  have e := (((((E.refl (1 - dd * x1 * x2 * y1 * y2)).sub hs).mul ((E.refl (1 + dd * x1 * x2 * y1 * y2)).sub hd)).mul (E.refl ((y1 + y2) * (y1 + y2)))).sub ((((E.refl (1 - dd * x1 * x2 * y1 * y2)).add hs).mul ((E.refl (1 + dd * x1 * x2 * y1 * y2)).add hd)).mul (E.refl ((y1 - y2) * (y1 - y2)))))
  rw [id_da2] at e
  exact e.trans ((E.zero_mul p1 _).add0 (E.zero_mul p2 _))
theorem id_db1 (d y ys Dy : Int) : Dy * (y * y * (1 - ys) * (1 - d) - (1 - y * y) * (1 - d * y * y) * (1 + ys)) = y * y * (Dy - ys * Dy) * (1 - d) - (1 - y * y) * (1 - d * y * y) * (Dy + ys * Dy) := by
  grind
theorem id_db2 (d x1 y1 : Int) : y1 * y1 * ((1 - d * x1 * x1 * y1 * y1) - (y1 * y1 - x1 * x1)) * (1 - d) - (1 - y1 * y1) * (1 - d * y1 * y1) * ((1 - d * x1 * x1 * y1 * y1) + (y1 * y1 - x1 * x1)) =
    (x1 * x1 + y1 * y1 - 1 - d * x1 * x1 * y1 * y1) * (-y1 * y1 * y1 * y1 * d + 1) := by
  grind
theorem dd_k : E (dd * 121666) 121665 := by
  unfold E dd ep
  decide
/-- Twice a point. -/
theorem double {x y ys : Int} (p : On x y) (hs : E (ys * (1 - dd * x * x * y * y)) (y * y - x * x)) : E (y * y * (1 - ys)) ((1 - y * y) * (1 + 121665 * (1 - y * y)) * (1 + ys)) := by
  have k : E (y * y * (1 - ys) * (1 - dd)) ((1 - y * y) * (1 - dd * y * y) * (1 + ys)) := by
    refine E.of_sub (e_cancel (not_minus p p) ?_)
    rw [id_db1]
    have e := (((E.refl (y * y)).mul ((E.refl (1 - dd * x * x * y * y)).sub hs)).mul (E.refl (1 - dd))).sub ((E.refl ((1 - y * y) * (1 - dd * y * y))).mul ((E.refl (1 - dd * x * x * y * y)).add hs))
    rw [id_db2] at e
    exact e.trans (E.zero_mul p _)
  have k2 := k.mul (E.refl 121666)
  have k3 : E (y * y * (1 - ys) * (1 - dd) * 121666) (y * y * (1 - ys)) := by
    have := (E.refl (y * y * (1 - ys))).mul ((E.refl 121666).sub dd_k)
    rw [show (121666 : Int) - 121665 = 1 by decide, Int.mul_one] at this
    exact (E.of_eq (by grind)).trans this
  have k4 : E ((1 - y * y) * (1 - dd * y * y) * (1 + ys) * 121666) ((1 - y * y) * (1 + 121665 * (1 - y * y)) * (1 + ys)) := by
    have := ((E.refl (1 - y * y)).mul ((E.refl 121666).sub (dd_k.mul (E.refl (y * y))))).mul (E.refl (1 + ys))
    refine (E.of_eq (by grind)).trans (this.trans (E.of_eq (by grind)))
  exact k3.symm.trans (k2.trans k4)
end Go.Proofs.Ytbkbodcncjhcmaa
