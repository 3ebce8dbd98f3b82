/- The base point's order; keys' numbers; two, and three, share the same: plain mathematics over the ladder. Condition: keys of 32 bytes. -/
import Derived.Test.YtbkbodcncjhcmaaLm
import Derived.Test.YtbkbodcncjhcmaaEll
import Derived.Test.YtbkbodcncjhcmaaCShare
namespace Go.Proofs.Ytbkbodcncjhcmaa
set_option linter.unusedSimpArgs false
set_option linter.unusedVariables false

def ellB : List Int := [237, 211, 245, 92, 26, 99, 18, 88, 214, 156, 247, 162, 222, 249, 222, 20, 0, 0, 0, 0, 0, 0, 0, 0, 0, 0, 0, 0, 0, 0, 0, 16]
theorem ell_ladder : (swp (bt ellB 255) (ld ellB 9 255)).b = 0 := by decide +kernel
theorem ell_nk : nk ellB 255 = ell := by decide +kernel
theorem y_one : E (Y 1) bY := by
  have h := (pt_step 0).y
  rw [x0, y0] at h
  refine (E.of_eq ?_).trans (h.trans (E.of_eq ?_))
  · grind
  · grind
theorem good_one : Good 1 := by
  refine ⟨fun h => ?_, fun h => ?_⟩
  · have h1 := (y_one.symm.trans h).sub_zero
    exact not_lit (bY - 1) (by decide) h1
  · have h1 := (y_one.symm.trans h).sub_zero
    exact not_lit (bY - -1) (by decide) h1
theorem rel_one : E (9 * (1 - Y 1)) (1 + Y 1) := (((E.refl 9).mul ((E.refl 1).sub y_one)).trans b_one).trans ((E.refl 1).add y_one.symm)

def O (n : Nat) : Prop := E (Y n) 1
theorem o_x {n : Nat} (h : O n) : E (X n) 0 := x_zero (pt_on n) (h.mul h)
theorem o_zero : O 0 := E.of_eq y0
theorem o_sum {m n : Nat} (h : O m) : E (Y (m + n)) (Y n) := by
  have hx := o_x h
  have hs := (pt_add m n).y
  have e1 : E (Y (m + n) * (1 - dd * X m * X n * Y m * Y n)) (Y (m + n)) := by
    have := (E.refl (Y (m + n))).sub (hx.zero_mul (Y (m + n) * dd * X n * Y m * Y n))
    refine (E.of_eq ?_).trans (this.trans (E.of_eq ?_))
    · grind
    · omega
  have e2 : E (Y m * Y n - X m * X n) (Y n) := by
    have := (h.mul (E.refl (Y n))).sub (hx.zero_mul (X n))
    exact this.trans (E.of_eq (by omega))
  exact e1.symm.trans (hs.trans e2)
theorem o_add {m n : Nat} (h : O m) (h' : O n) : O (m + n) := (o_sum h).trans h'
theorem o_back {m n : Nat} (h : O m) (h' : O (m + n)) : O n := (o_sum h).symm.trans h'
theorem o_mul {m : Nat} (h : O m) : ∀ k, O (m * k)
  | 0 => o_zero
  | k + 1 => by rw [Nat.mul_succ]; exact o_add (o_mul h k) h
theorem o_gcd (m n : Nat) : O m → O n → O (Nat.gcd m n) := by
  refine Nat.gcd.induction m n (P := fun m n => O m → O n → O (Nat.gcd m n)) ?_ ?_
  · intro n _ h
    rwa [Nat.gcd_zero_left]
  · intro m n _ ih hm hn
    have h1 : O (n % m) := by
      have := Nat.div_add_mod n m
      exact o_back (o_mul hm (n / m)) (by rw [this]; exact hn)
    rw [Nat.gcd_rec]
    exact ih h1 hm
theorem o_ell : O ell := by
  obtain ⟨m, hm, -, hb⟩ := (ladder_inv ellB 9 1 good_one rel_one 255).1
  rw [ell_ladder, ell_nk, Nat.mul_one] at hb
  have h := e_cancel hm hb.symm
  exact (E.of_sub (by
    have := h.mul (E.refl (-1))
    refine (E.of_eq ?_).trans (this.trans (E.of_eq ?_))
    · omega
    · omega))
theorem not_o {n : Nat} (h : ¬ ell ∣ n) : ¬ O n := by
  intro ho
  rcases ell_prime.2 (Nat.gcd ell n) (Nat.gcd_dvd_left _ _) with h1 | h1
  · have := o_gcd ell n o_ell ho
    rw [h1] at this
    exact good_one.1 this
  · exact h (h1 ▸ Nat.gcd_dvd_right ell n)
theorem good_of {n : Nat} (h : ¬ ell ∣ n) : Good n := by
  refine ⟨not_o h, fun h1 => ?_⟩
  have h2 : O (n + n) := by
    have hx := x_zero (pt_on n) (h1.mul h1)
    have hs := (pt_add n n).y
    have e1 : E (Y (n + n) * (1 - dd * X n * X n * Y n * Y n)) (Y (n + n)) := by
      have := (E.refl (Y (n + n))).sub (hx.zero_mul (Y (n + n) * dd * X n * Y n * Y n))
      refine (E.of_eq ?_).trans (this.trans (E.of_eq ?_))
      · grind
      · omega
    have e2 : E (Y n * Y n - X n * X n) 1 := ((h1.mul h1).sub (hx.zero_mul (X n))).trans (E.of_eq (by decide))
    exact e1.symm.trans (hs.trans e2)
  refine not_o (n := n + n) ?_ h2
  intro hd
  rw [← Nat.two_mul] at hd
  rcases ell_prime.euclid hd with h | h'
  · exact absurd (Nat.le_of_dvd (by decide) h) (by decide)
  · exact h h'

/-! ### Keys' numbers -/
theorem nk_lt (l : List Int) : ∀ k, nk l k < 2 ^ k
  | 0 => by simp [nk]
  | k + 1 => by
    have h := nk_lt l k
    have hb := bt_bit l (k + 1)
    simp only [nk, Nat.pow_succ]
    rcases hb with hb | hb <;> rw [hb] <;> simp <;> omega
theorem nk_ge (l : List Int) (h1 : bt l 1 = 1) : ∀ k, 2 ^ k ≤ nk l (k + 1)
  | 0 => by simp [nk, h1]
  | k + 1 => by
    have h := nk_ge l h1 k
    show _ ≤ 2 * nk l (k + 1) + _
    rw [Nat.pow_succ]
    omega
def num (k : List Int) : Nat := nk (cl k) 255
theorem cl_get0 (k : List Int) (hk : k.length = 32) : (cl k).getD 0 0 = k.getD 0 0 - k.getD 0 0 % 8 := by
  unfold cl
  rw [List.getD_eq_getElem?_getD, List.getElem?_set_ne (by decide), List.getElem?_set_self (by omega)]
  rfl
theorem cl_get31 (k : List Int) (hk : k.length = 32) : (cl k).getD 31 0 = k.getD 31 0 % 64 + 64 := by
  unfold cl
  rw [List.getD_eq_getElem?_getD, List.getElem?_set_self (by simp [hk])]
  rfl
theorem num_is (k : List Int) (hk : k.length = 32) : ∃ m, num k = 8 * m ∧ 0 < m ∧ m < ell := by
  have b0 : bt (cl k) 255 = 0 := by
    show kb (cl k) 0 = 0
    unfold kb
    rw [show 0 / 8 = 0 from rfl, cl_get0 k hk, show (2 : Int) ^ (0 % 8) = 1 from rfl]
    omega
  have b1 : bt (cl k) 254 = 0 := by
    show kb (cl k) 1 = 0
    unfold kb
    rw [show 1 / 8 = 0 from rfl, cl_get0 k hk, show (2 : Int) ^ (1 % 8) = 2 from rfl]
    omega
  have b2 : bt (cl k) 253 = 0 := by
    show kb (cl k) 2 = 0
    unfold kb
    rw [show 2 / 8 = 0 from rfl, cl_get0 k hk, show (2 : Int) ^ (2 % 8) = 4 from rfl]
    omega
  have bh : bt (cl k) 1 = 1 := by
    show kb (cl k) 254 = 1
    unfold kb
    rw [show 254 / 8 = 31 from rfl, cl_get31 k hk, show (2 : Int) ^ (254 % 8) = 64 from rfl]
    omega
  refine ⟨nk (cl k) 252, ?_, ?_, ?_⟩
  · have h3 : nk (cl k) 255 = 2 * nk (cl k) 254 + (bt (cl k) 255).toNat := rfl
    have h2 : nk (cl k) 254 = 2 * nk (cl k) 253 + (bt (cl k) 254).toNat := rfl
    have h1 : nk (cl k) 253 = 2 * nk (cl k) 252 + (bt (cl k) 253).toNat := rfl
    rw [b0] at h3
    rw [b1] at h2
    rw [b2] at h1
    unfold num
    simp at h1 h2 h3
    omega
  · have := nk_ge (cl k) bh 251
    exact Nat.lt_of_lt_of_le (by decide) this
  · exact Nat.lt_of_lt_of_le (nk_lt (cl k) 252) (by decide)
theorem num_not (k : List Int) (hk : k.length = 32) : ¬ ell ∣ num k := by
  obtain ⟨m, hm, h0, h1⟩ := num_is k hk
  rw [hm]
  intro hd
  rcases ell_prime.euclid hd with h | h
  · exact absurd (Nat.le_of_dvd (by decide) h) (by decide)
  · have := Nat.le_of_dvd h0 h
    omega
theorem mul_not {m n : Nat} (h : ¬ ell ∣ m) (h' : ¬ ell ∣ n) : ¬ ell ∣ m * n := fun hd => (ell_prime.euclid hd).elim h h'

/-! ### What is shared -/
/-- r is the first coordinate of the n-th multiple. -/
def Rel (n : Nat) (r : Int) : Prop := E (r * (1 - Y n)) (1 + Y n)
theorem rel_eq {n : Nat} {r r' : Int} (hn : ¬ O n) (h : Rel n r) (h' : Rel n r') (e : El r) (e' : El r') : r = r' := by
  have n1 : ¬ E (1 - Y n) 0 := fun h => hn (E.of_sub (by
    have := h.mul (E.refl (-1))
    refine (E.of_eq ?_).trans (this.trans (E.of_eq ?_))
    · omega
    · omega))
  have h1 := (h.trans (E.symm h')).sub_zero
  have h2 : E ((1 - Y n) * (r - r')) 0 := (E.of_eq (by grind)).trans h1
  have h3 := e_cancel n1 h2
  obtain ⟨k, hk⟩ := h3
  obtain ⟨a, b⟩ := e
  obtain ⟨c, d⟩ := e'
  unfold pp at b d
  unfold ep at hk
  omega
theorem rel_ne {n : Nat} {r : Int} (hn : Good n) (h : Rel n r) : r ≠ 0 := by
  rintro rfl
  refine hn.2 (E.of_sub ?_)
  have := (h.symm.trans (E.of_eq (Int.zero_mul _)))
  refine (E.of_eq ?_).trans this
  omega
theorem rel_x {k u : List Int} {j : Nat} (hk : k.length = 32) (hj : ¬ ell ∣ j) (h : Rel j (fe u)) : Rel (num k * j) (xe k u) :=
  lad_is (cl k) (fe u) j (good_of hj) h (not_o (mul_not (num_not k hk) hj))
theorem fe_nine : fe nine = 9 := by decide
theorem one_not : ¬ ell ∣ 1 := fun h => absurd (Nat.le_of_dvd (by decide) h) (by decide)
theorem fe_xv (k u : List Int) : fe (xv k u) = xe k u := fe_lb (el_xe k u)
theorem rel_pub {k : List Int} (hk : k.length = 32) : Rel (num k) (fe (pub k)) := by
  unfold pub
  rw [fe_xv]
  have h := rel_x (k := k) (u := nine) (j := 1) hk one_not (by rw [fe_nine]; exact rel_one)
  rwa [Nat.mul_one] at h
theorem pub_length (k : List Int) : (pub k).length = 32 := xv_length _ _
theorem pub_bys (k : List Int) : Bys (pub k) := xv_bys _ _
theorem both_same {a b : List Int} (ha : a.length = 32) (hb : b.length = 32) : xv a (pub b) = xv b (pub a) := by
  have h1 := rel_x (k := a) ha (num_not b hb) (rel_pub hb)
  have h2 := rel_x (k := b) hb (num_not a ha) (rel_pub ha)
  rw [Nat.mul_comm] at h2
  unfold xv
  rw [rel_eq (not_o (mul_not (num_not a ha) (num_not b hb))) h1 h2 (el_xe _ _) (el_xe _ _)]
theorem zeros_lb : List.replicate 32 (0 : Int) = lb 32 0 := by decide
theorem xv_ne {k u : List Int} {n : Nat} (hn : Good n) (h : Rel n (xe k u)) : xv k u ≠ List.replicate 32 0 := by
  rw [zeros_lb]
  exact lb_ne (el_xe k u) ⟨by decide, by decide⟩ (rel_ne hn h)
theorem both_ne {a b : List Int} (ha : a.length = 32) (hb : b.length = 32) : xv a (pub b) ≠ List.replicate 32 0 :=
  xv_ne (good_of (mul_not (num_not a ha) (num_not b hb))) (rel_x (k := a) ha (num_not b hb) (rel_pub hb))
theorem three_same {a b c : List Int} (ha : a.length = 32) (hb : b.length = 32) (hc : c.length = 32) : xv a (xv b (pub c)) = xv b (xv c (pub a)) ∧ xv b (xv c (pub a)) = xv c (xv a (pub b)) := by
  have na := num_not a ha
  have nb := num_not b hb
  have nc := num_not c hc
  have h1 := rel_x (k := b) hb nc (rel_pub hc)
  have h2 := rel_x (k := c) hc na (rel_pub ha)
  have h3 := rel_x (k := a) ha nb (rel_pub hb)
  rw [← fe_xv] at h1 h2 h3
  have k1 := rel_x (k := a) ha (mul_not nb nc) h1
  have k2 := rel_x (k := b) hb (mul_not nc na) h2
  have k3 := rel_x (k := c) hc (mul_not na nb) h3
  have e1 : num b * (num c * num a) = num a * (num b * num c) := by rw [Nat.mul_comm (num c), Nat.mul_left_comm]
  have e2 : num c * (num a * num b) = num a * (num b * num c) := by rw [Nat.mul_left_comm, Nat.mul_comm (num c)]
  rw [e1] at k2
  rw [e2] at k3
  have hn := not_o (mul_not na (mul_not nb nc))
  have g1 := rel_eq hn k1 k2 (el_xe _ _) (el_xe _ _)
  have g2 := rel_eq hn k2 k3 (el_xe _ _) (el_xe _ _)
  unfold xv at *
  rw [g1, g2]
  exact ⟨rfl, rfl⟩
end Go.Proofs.Ytbkbodcncjhcmaa
