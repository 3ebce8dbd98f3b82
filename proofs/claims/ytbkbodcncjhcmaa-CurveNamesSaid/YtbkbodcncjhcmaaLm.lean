/- Multiples of the base point, and the ladder over them: what the ladder leaves is the multiple's first coordinate. Plain mathematics over the ladder's numbers. Conditions: the difference's point is neither 0 nor of order 2. -/
import Derived.Test.YtbkbodcncjhcmaaEd
import Derived.Test.YtbkbodcncjhcmaaCLad
namespace Go.Proofs.Ytbkbodcncjhcmaa
set_option linter.unusedSimpArgs false
set_option linter.unusedVariables false

def bX : Int := 9771384041963202563870679428059935816164187996444183106833894008023910952347
def bY : Int := 46316835694926478169428394003475163141307993866256225615783033603165251855960
theorem b_on : On bX bY := by
  unfold On E bX bY dd ep
  decide
/-- The n-th multiple of the base point. -/
def pt : Nat → Int × Int
  | 0 => (0, 1)
  | n + 1 => (((pt n).1 * bY + bX * (pt n).2) * iv (1 + dd * (pt n).1 * bX * (pt n).2 * bY), ((pt n).2 * bY - (pt n).1 * bX) * iv (1 - dd * (pt n).1 * bX * (pt n).2 * bY))
def X (n : Nat) : Int := (pt n).1
def Y (n : Nat) : Int := (pt n).2
theorem pt_both : ∀ n, On (X n) (Y n) ∧ Sum (X n) (Y n) bX bY (X (n + 1)) (Y (n + 1))
  | 0 => by
    have h : On (X 0) (Y 0) := by
      unfold On X Y pt E
      decide
    exact ⟨h, sum_ex h b_on⟩
  | n + 1 => by
    obtain ⟨h1, h2⟩ := pt_both n
    have h : On (X (n + 1)) (Y (n + 1)) := h2.on h1 b_on
    exact ⟨h, sum_ex h b_on⟩
theorem pt_on (n : Nat) : On (X n) (Y n) := (pt_both n).1
theorem pt_step (n : Nat) : Sum (X n) (Y n) bX bY (X (n + 1)) (Y (n + 1)) := (pt_both n).2
theorem x0 : X 0 = 0 := rfl
theorem y0 : Y 0 = 1 := rfl
theorem pt_add (m : Nat) : ∀ n, Sum (X m) (Y m) (X n) (Y n) (X (m + n)) (Y (m + n))
  | 0 => by
    rw [x0, y0, Nat.add_zero]
    exact ⟨E.of_eq (by grind), E.of_eq (by grind)⟩
  | n + 1 => (pt_add m n).assoc (pt_on m) (pt_on n) b_on (pt_step n) (pt_step (m + n))
theorem y_back (i j : Nat) : E (Y j * (1 + dd * X (i + j) * X i * Y (i + j) * Y i)) (Y (i + j) * Y i + X (i + j) * X i) := (pt_add i j).back (pt_on i) (pt_on j)
theorem b_one : E (9 * (1 - bY)) (1 + bY) := by
  unfold E bY ep
  decide

theorem two_not : ¬ E 2 0 := not_lit 2 (by decide)
/-- x is 0 where y is 1 or its opposite. -/
theorem x_zero {x y : Int} (h : On x y) (hy : E (y * y) 1) : E x 0 := by
  have nd : ¬ E (1 - dd) 0 := not_lit _ (by decide)
  have h1 : E (x * x * (1 - dd)) (x * x + y * y - 1 - dd * x * x * y * y) := by
    have e1 := ((E.refl (x * x)).add hy.symm).sub ((E.refl (dd * x * x)).mul hy.symm)
    have e2 := e1.sub (E.refl 1)
    refine (E.of_eq ?_).trans (e2.trans (E.of_eq ?_))
    · grind
    · grind
  have h2 := h1.trans h
  rw [Int.mul_comm] at h2
  rcases e_prime (e_cancel nd h2) with h | h <;> exact h
theorem y_sq {x y : Int} (h : On x y) (hx : E x 0) : E y 1 ∨ E y (-1) := by
  have h1 : E ((y - 1) * (y + 1)) 0 := by
    have e1 := h.sub ((hx.zero_mul x).sub (hx.zero_mul (dd * x * y * y)))
    refine (E.of_eq ?_).trans e1
    grind
  rcases e_prime h1 with h | h
  · exact .inl (E.of_sub h)
  · refine .inr (E.of_sub ?_)
    rwa [Int.sub_neg]

/-- X and Z are 1 + y and 1 - y, but for a factor that is not 0. -/
def Rep (A Z y : Int) : Prop := ∃ l, ¬ E l 0 ∧ E A (l * (1 + y)) ∧ E Z (l * (1 - y))
theorem rep_of {A Z y : Int} (h : E (A * (1 - y)) (Z * (1 + y))) (hn : ¬ (E A 0 ∧ E Z 0)) : Rep A Z y := by
  have h2 := iv_ok two_not
  have k1 : E (iv 2 * (A + Z) * (1 + y)) A := by
    have e1 := (E.refl (iv 2)).mul (((E.refl A).add (E.refl (A * y))).add (h.symm.sub (E.refl (A - A * y)) |>.add (E.refl (A - A * y))))
    have e2 := (h2.mul (E.refl A))
    refine (E.of_eq ?_).trans (e1.trans ((E.of_eq ?_).trans (e2.trans (E.of_eq ?_))))
    · grind
    · grind
    · omega
  have k2 : E (iv 2 * (A + Z) * (1 - y)) Z := by
    have e1 := (E.refl (iv 2)).mul (((E.refl Z).sub (E.refl (Z * y))).add (h.sub (E.refl (Z + Z * y)) |>.add (E.refl (Z + Z * y))))
    have e2 := (h2.mul (E.refl Z))
    refine (E.of_eq ?_).trans (e1.trans ((E.of_eq ?_).trans (e2.trans (E.of_eq ?_))))
    · grind
    · grind
    · omega
  refine ⟨iv 2 * (A + Z), fun hl => hn ⟨k1.symm.trans (hl.zero_mul _), k2.symm.trans (hl.zero_mul _)⟩, k1.symm, k2.symm⟩
theorem e_fa (u v : Int) : E (Fa u v) (u + v) := e_emod _
theorem e_fs (u v : Int) : E (Fs u v) (u - v) := e_emod _
theorem e_fm (u v : Int) : E (Fm u v) (u * v) := e_emod _
theorem fa_e {u v u' v' : Int} (h : E u u') (h' : E v v') : E (Fa u v) (u' + v') := (e_fa u v).trans (h.add h')
theorem fs_e {u v u' v' : Int} (h : E u u') (h' : E v v') : E (Fs u v) (u' - v') := (e_fs u v).trans (h.sub h')
theorem fm_e {u v u' v' : Int} (h : E u u') (h' : E v v') : E (Fm u v) (u' * v') := (e_fm u v).trans (h.mul h')

/-- What a step leaves, over plain numbers. -/
theorem stp_dbl (x1 : Int) (s : St) {l u : Int} (ha : E s.a (l * (1 + u))) (hb : E s.b (l * (1 - u))) :
    E (stp x1 s).a (16 * (l * l * (l * l)) * (u * u)) ∧ E (stp x1 s).b (16 * (l * l * (l * l)) * ((1 - u * u) * (1 + 121665 * (1 - u * u)))) := by
  have p1 := fa_e ha hb
  have p2 := fs_e ha hb
  have q1 := fm_e p1 p1
  have q2 := fm_e p2 p2
  have q3 := fs_e q1 q2
  refine ⟨(fm_e q1 q2).trans (E.of_eq (by grind)), (fm_e q3 (fa_e q1 (fm_e (E.refl 121665) q3))).trans (E.of_eq (by grind))⟩
theorem stp_sum (x1 : Int) (s : St) {l m u v : Int} (ha : E s.a (l * (1 + u))) (hb : E s.b (l * (1 - u))) (hc : E s.c (m * (1 + v))) (hd : E s.d (m * (1 - v))) :
    E (stp x1 s).c (16 * (l * l * (m * m)) * ((u + v) * (u + v))) ∧ E (stp x1 s).d (16 * (l * l * (m * m)) * (x1 * ((u - v) * (u - v)))) := by
  have p1 := fa_e ha hb
  have p2 := fs_e ha hb
  have p3 := fa_e hc hd
  have p4 := fs_e hc hd
  have da := fm_e p4 p1
  have cb := fm_e p3 p2
  have s1 := fa_e da cb
  have s2 := fs_e da cb
  refine ⟨(fm_e s1 s1).trans (E.of_eq (by grind)), (fm_e (E.refl x1) (fm_e s2 s2)).trans (E.of_eq (by grind))⟩

theorem rep_dbl (x1 : Int) (s : St) (i : Nat) (h : Rep s.a s.b (Y i)) : Rep (stp x1 s).a (stp x1 s).b (Y (i + i)) := by
  obtain ⟨l, hl, ha, hb⟩ := h
  obtain ⟨k1, k2⟩ := stp_dbl x1 s ha hb
  have hd := double (pt_on i) (pt_add i i).y
  have h16 : ¬ E (16 * (l * l * (l * l))) 0 := not_mul (not_lit 16 (by decide)) (not_mul (not_mul hl hl) (not_mul hl hl))
  refine rep_of ?_ ?_
  · have e1 := k1.mul (E.refl (1 - Y (i + i)))
    have e2 := k2.mul (E.refl (1 + Y (i + i)))
    have e3 := (E.refl (16 * (l * l * (l * l)))).mul hd
    refine e1.trans (((E.of_eq ?_).trans (e3.trans (E.of_eq ?_))).trans e2.symm)
    · grind
    · grind
  · rintro ⟨z1, z2⟩
    have a1 := e_cancel h16 (k1.symm.trans z1)
    have a2 : E (Y i) 0 := by rcases e_prime a1 with h | h <;> exact h
    have a3 := e_cancel h16 (k2.symm.trans z2)
    have a4 : E ((1 - Y i * Y i) * (1 + 121665 * (1 - Y i * Y i))) 121666 := by
      have e1 := (E.refl 1).sub a1
      have e2 := e1.mul ((E.refl 1).add ((E.refl 121665).mul e1))
      exact e2.trans (E.of_eq (by decide))
    exact not_lit 121666 (by decide) (a4.symm.trans a3)

/-- Neither 0 nor of order 2. -/
def Good (j : Nat) : Prop := ¬ E (Y j) 1 ∧ ¬ E (Y j) (-1)
theorem not_both (i j : Nat) (hj : Good j) (h1 : E (Y i) 0) (h2 : E (Y (i + j)) 0) : False := by
  have h := (pt_add i j).y
  have k1 : E (Y (i + j) * (1 - dd * X i * X j * Y i * Y j)) 0 := h2.zero_mul _
  have k2 : E (X i * X j) 0 := by
    have := (h1.zero_mul (Y j)).sub (h.symm.trans k1)
    refine (E.of_eq ?_).trans this
    omega
  rcases e_prime k2 with h | h
  · rcases y_sq (pt_on i) h with h | h
    · exact not_lit 1 (by decide) (h.symm.trans h1)
    · exact not_lit (-1) (by decide) (h.symm.trans h1)
  · rcases y_sq (pt_on j) h with h | h
    · exact hj.1 h
    · exact hj.2 h
theorem key_sum (i j : Nat) : E ((1 - Y (i + (i + j))) * (1 - Y j) * ((Y i + Y (i + j)) * (Y i + Y (i + j)))) ((1 + Y (i + (i + j))) * (1 + Y j) * ((Y i - Y (i + j)) * (Y i - Y (i + j)))) := by
  refine diffadd (pt_on i) (pt_on (i + j)) (pt_add i (i + j)).y ?_
  have h := y_back i j
  refine (E.of_eq ?_).trans (h.trans (E.of_eq ?_))
  · grind
  · grind
theorem rep_sum {x1 : Int} {A Z : Int} (i j : Nat) (hj : Good j) (hx : E (x1 * (1 - Y j)) (1 + Y j)) {c u v : Int} (hc : ¬ E c 0) (huv : (u = Y i ∧ v = Y (i + j)) ∨ (u = Y (i + j) ∧ v = Y i))
    (h1 : E A (c * ((u + v) * (u + v)))) (h2 : E Z (c * (x1 * ((u - v) * (u - v))))) : Rep A Z (Y (i + (i + j))) := by
  have n1 : ¬ E (1 - Y j) 0 := fun h => hj.1 (E.of_sub (by
    have := h.mul (E.refl (-1))
    refine (E.of_eq ?_).trans (this.trans (E.of_eq ?_))
    · omega
    · omega))
  have n2 : ¬ E (1 + Y j) 0 := fun h => hj.2 (E.of_sub (by
    refine (E.of_eq ?_).trans h
    omega))
  have nx : ¬ E x1 0 := fun h => n2 (hx.symm.trans (h.zero_mul _))
  have hk := key_sum i j
  have k : E ((1 - Y (i + (i + j))) * ((Y i + Y (i + j)) * (Y i + Y (i + j)))) ((1 + Y (i + (i + j))) * (x1 * ((Y i - Y (i + j)) * (Y i - Y (i + j))))) := by
    refine E.of_sub (e_cancel n1 ?_)
    have e1 := ((E.refl (1 + Y (i + (i + j)))).mul hx.symm).mul (E.refl ((Y i - Y (i + j)) * (Y i - Y (i + j))))
    have e2 := (hk.trans e1).sub_zero
    refine (E.of_eq ?_).trans e2
    grind
  have hs : E A (c * ((Y i + Y (i + j)) * (Y i + Y (i + j)))) ∧ E Z (c * (x1 * ((Y i - Y (i + j)) * (Y i - Y (i + j))))) := by
    rcases huv with ⟨rfl, rfl⟩ | ⟨rfl, rfl⟩
    · exact ⟨h1, h2⟩
    · exact ⟨h1.trans (E.of_eq (by grind)), h2.trans (E.of_eq (by grind))⟩
  obtain ⟨g1, g2⟩ := hs
  refine rep_of ?_ ?_
  · have e1 := g1.mul (E.refl (1 - Y (i + (i + j))))
    have e2 := g2.mul (E.refl (1 + Y (i + (i + j))))
    have e3 := (E.refl c).mul k
    refine e1.trans (((E.of_eq ?_).trans (e3.trans (E.of_eq ?_))).trans e2.symm)
    · grind
    · grind
  · rintro ⟨z1, z2⟩
    have a1 := e_cancel hc (g1.symm.trans z1)
    have a2 := e_cancel nx (e_cancel hc (g2.symm.trans z2))
    have b1 : E (Y i + Y (i + j)) 0 := by rcases e_prime a1 with h | h <;> exact h
    have b2 : E (Y i - Y (i + j)) 0 := by rcases e_prime a2 with h | h <;> exact h
    have c1 : E (2 * Y i) 0 := (E.of_eq (by omega)).trans (b1.add b2)
    have c2 : E (2 * Y (i + j)) 0 := (E.of_eq (by omega)).trans (b1.sub b2)
    exact not_both i j hj (e_cancel two_not c1) (e_cancel two_not c2)

/-! ### The ladder -/
/-- The number that the first k bits make. -/
def nk (l : List Int) : Nat → Nat
  | 0 => 0
  | k + 1 => 2 * nk l k + (bt l (k + 1)).toNat
theorem swp_swp (l : List Int) (k : Nat) (s : St) : swp (bt l k + bt l (k + 1)) s = swp (bt l (k + 1)) (swp (bt l k) s) := by
  have h1 := bt_bit l k
  have h2 := bt_bit l (k + 1)
  rcases h1 with h1 | h1 <;> rcases h2 with h2 | h2 <;> simp [swp, h1, h2]
theorem ladder_inv (l : List Int) (x1 : Int) (j : Nat) (hj : Good j) (hx : E (x1 * (1 - Y j)) (1 + Y j)) : ∀ k,
    Rep (swp (bt l k) (ld l x1 k)).a (swp (bt l k) (ld l x1 k)).b (Y (nk l k * j)) ∧ Rep (swp (bt l k) (ld l x1 k)).c (swp (bt l k) (ld l x1 k)).d (Y (nk l k * j + j))
  | 0 => by
    have n1 : ¬ E (1 - Y j) 0 := fun h => hj.1 (E.of_sub (by
      have := h.mul (E.refl (-1))
      refine (E.of_eq ?_).trans (this.trans (E.of_eq ?_))
      · omega
      · omega))
    have h0 : swp (bt l 0) (ld l x1 0) = ⟨1, 0, x1, 1⟩ := rfl
    rw [h0]
    simp only [nk, Nat.zero_mul, Nat.zero_add]
    refine ⟨rep_of ?_ (fun h => not_lit 1 (by decide) h.1), rep_of ?_ (fun h => not_lit 1 (by decide) h.2)⟩
    · rw [y0]
      exact E.refl _
    · exact hx.trans (E.of_eq (by omega))
  | k + 1 => by
    obtain ⟨h1, h2⟩ := ladder_inv l x1 j hj hx k
    have e : ld l x1 (k + 1) = stp x1 (swp (bt l (k + 1)) (swp (bt l k) (ld l x1 k))) := by
      rw [← swp_swp]
      rfl
    rw [e]
    generalize swp (bt l k) (ld l x1 k) = t at h1 h2 ⊢
    obtain ⟨l1, hl1, ha, hb⟩ := h1
    obtain ⟨l2, hl2, hc, hd⟩ := h2
    have h16 : ¬ E (16 * (l1 * l1 * (l2 * l2))) 0 := not_mul (not_lit 16 (by decide)) (not_mul (not_mul hl1 hl1) (not_mul hl2 hl2))
    have h16' : ¬ E (16 * (l2 * l2 * (l1 * l1))) 0 := not_mul (not_lit 16 (by decide)) (not_mul (not_mul hl2 hl2) (not_mul hl1 hl1))
    rcases bt_bit l (k + 1) with hb1 | hb1
    · have e1 : nk l (k + 1) = 2 * nk l k := by simp [nk, hb1]
      have s1 : ∀ s : St, swp (bt l (k + 1)) s = s := fun s => by simp [swp, hb1]
      rw [e1, s1, s1]
      obtain ⟨g1, g2⟩ := stp_sum x1 t ha hb hc hd
      refine ⟨?_, ?_⟩
      · have := rep_dbl x1 t (nk l k * j) ⟨l1, hl1, ha, hb⟩
        rwa [show nk l k * j + nk l k * j = 2 * nk l k * j by rw [Nat.mul_assoc, Nat.two_mul]] at this
      · have := rep_sum (nk l k * j) j hj hx h16 (.inl ⟨rfl, rfl⟩) g1 g2
        rwa [show nk l k * j + (nk l k * j + j) = 2 * nk l k * j + j by rw [Nat.mul_assoc, Nat.two_mul]; omega] at this
    · have e1 : nk l (k + 1) = 2 * nk l k + 1 := by simp [nk, hb1]
      have s1 : ∀ s : St, swp (bt l (k + 1)) s = ⟨s.c, s.d, s.a, s.b⟩ := fun s => by simp [swp, hb1]
      rw [e1, s1, s1]
      obtain ⟨g1, g2⟩ := stp_sum x1 ⟨t.c, t.d, t.a, t.b⟩ hc hd ha hb
      refine ⟨?_, ?_⟩
      · have := rep_sum (nk l k * j) j hj hx h16' (.inr ⟨rfl, rfl⟩) g1 g2
        rwa [show nk l k * j + (nk l k * j + j) = (2 * nk l k + 1) * j by rw [Nat.add_mul, Nat.mul_assoc, Nat.two_mul]; omega] at this
      · have := rep_dbl x1 ⟨t.c, t.d, t.a, t.b⟩ (nk l k * j + j) ⟨l2, hl2, hc, hd⟩
        rwa [show nk l k * j + j + (nk l k * j + j) = (2 * nk l k + 1) * j + j by rw [Nat.add_mul, Nat.mul_assoc, Nat.two_mul]; omega] at this

theorem vi_ok {a : Int} (ha : ¬ E a 0) : E (a * vi a) 1 := by
  have h : E (vi a) (iv a) := by
    unfold vi pwr iv
    have e : ex 0 = qq := by decide
    rw [e]
    exact e_emod _
  exact ((E.refl a).mul h).trans (iv_ok ha)
/-- What the ladder answers, over a multiple of the base point. -/
theorem lad_is (l : List Int) (x1 : Int) (j : Nat) (hj : Good j) (hx : E (x1 * (1 - Y j)) (1 + Y j)) (hn : ¬ E (Y (nk l 255 * j)) 1) : E (lad l x1 * (1 - Y (nk l 255 * j))) (1 + Y (nk l 255 * j)) := by
  obtain ⟨m, hm, ha, hb⟩ := (ladder_inv l x1 j hj hx 255).1
  unfold lad
  generalize swp (bt l 255) (ld l x1 255) = t at ha hb ⊢
  generalize Y (nk l 255 * j) = y at hn ha hb ⊢
  have n1 : ¬ E (1 - y) 0 := fun h => hn (E.of_sub (by
    have := h.mul (E.refl (-1))
    refine (E.of_eq ?_).trans (this.trans (E.of_eq ?_))
    · omega
    · omega))
  have nb : ¬ E t.b 0 := fun h => not_mul hm n1 (hb.symm.trans h)
  have hv := vi_ok nb
  refine E.of_sub (e_cancel hm ?_)
  have e1 := (e_fm t.a (vi t.b)).mul hb.symm
  have e2 := ((E.refl t.a).mul hv).trans ((E.of_eq (Int.mul_one _)).trans ha)
  have e3 := (e1.trans ((E.of_eq (by grind)).trans e2)).sub_zero
  refine (E.of_eq ?_).trans e3
  grind
end Go.Proofs.Ytbkbodcncjhcmaa
