/- The tag of bytes, as a function; its laws. Lemmas alone. -/
import Derived.Test.YtcoggpedpclkaaaCl
import Derived.Test.YtcoggpedpclkaaaPl
namespace Go.Proofs.Ytcoggpedpclkaaa
set_option linter.unusedSimpArgs false
set_option linter.unusedVariables false
open Go.RowKit

/-- The sum, block by block (n: as many steps as there may be). -/
def hb (r : Int) : Nat → Int → List Int → Int
  | 0, h, _ => h
  | n + 1, h, l => if l.isEmpty then h else hb r n ((h + vl (l.take 16 ++ [1])) * r % pp) (l.drop 16)
/-- The sum of bytes. -/
def hsh (r : Int) (l : List Int) : Int := hb r l.length 0 l
/-- A key's r. -/
def rr (k : List Int) : Int := vl (clr (k.take 16))
/-- The tag. -/
def tag (k l : List Int) : List Int := les 16 (hsh (rr k) l + vl (k.drop 16))

theorem hb_nil (r h : Int) (n : Nat) : hb r n h [] = h := by cases n <;> simp [hb]
theorem hb_fuel (r : Int) : ∀ (n m : Nat) (h : Int) (l : List Int), l.length ≤ n → l.length ≤ m → hb r n h l = hb r m h l := by
  intro n
  induction n with
  | zero =>
    intro m h l h1 _
    have : l = [] := List.eq_nil_of_length_eq_zero (by omega)
    subst this
    rw [hb_nil, hb_nil]
  | succ n ih =>
    intro m h l h1 h2
    cases m with
    | zero =>
      have : l = [] := List.eq_nil_of_length_eq_zero (by omega)
      subst this
      rw [hb_nil, hb_nil]
    | succ m =>
      simp only [hb]
      split
      · rfl
      · rename_i he
        have : l.length ≠ 0 := fun e => he (by rw [List.eq_nil_of_length_eq_zero e]; rfl)
        exact ih m _ _ (by rw [List.length_drop]; omega) (by rw [List.length_drop]; omega)
theorem hb_step (r h : Int) (l : List Int) (hl : l ≠ []) : hb r l.length h l = hb r (l.drop 16).length ((h + vl (l.take 16 ++ [1])) * r % pp) (l.drop 16) := by
  have h0 : l.length ≠ 0 := fun e => hl (List.eq_nil_of_length_eq_zero e)
  have he : ¬ l.isEmpty = true := by simpa using hl
  obtain ⟨n, hn⟩ : ∃ n, l.length = n + 1 := ⟨l.length - 1, by omega⟩
  rw [hn]
  simp only [hb, if_neg he]
  exact hb_fuel _ _ _ _ _ (by rw [List.length_drop]; omega) (Nat.le_refl _)
theorem hb_app (r : Int) : ∀ (n : Nat) (h : Int) (l m : List Int), l.length = 16 * n → hb r (l ++ m).length h (l ++ m) = hb r m.length (hb r l.length h l) m := by
  intro n
  induction n with
  | zero =>
    intro h l m hl
    have : l = [] := List.eq_nil_of_length_eq_zero (by omega)
    subst this
    rw [hb_nil, List.nil_append]
  | succ n ih =>
    intro h l m hl
    have l0 : l ≠ [] := by rintro rfl; simp at hl
    rw [hb_step r h (l ++ m) (by simp [l0]), hb_step r h l l0]
    rw [List.drop_append_of_le_length (by omega), List.take_append_of_le_length (by omega)]
    exact ih _ (l.drop 16) m (by rw [List.length_drop]; omega)
theorem hsh_nil (r : Int) : hsh r [] = 0 := rfl
/-- One block more, full or not. -/
theorem hsh_block (r : Int) (l m : List Int) (hl : l.length % 16 = 0) (hm0 : 0 < m.length) (hm : m.length ≤ 16) : hsh r (l ++ m) = (hsh r l + vl (m ++ [1])) * r % pp := by
  unfold hsh
  rw [hb_app r (l.length / 16) 0 l m (by omega), hb_step r _ m (by rintro rfl; simp at hm0)]
  have e1 : m.drop 16 = [] := List.drop_eq_nil_of_le hm
  have e2 : m.take 16 = m := List.take_of_length_le hm
  rw [e1, e2, hb_nil]
theorem hb_bd (r : Int) : ∀ (n : Nat) (h : Int) (l : List Int), 0 ≤ h → h < pp → 0 ≤ hb r n h l ∧ hb r n h l < pp := by
  intro n
  induction n with
  | zero => intro h l h0 h1; exact ⟨h0, h1⟩
  | succ n ih =>
    intro h l h0 h1
    simp only [hb]
    split
    · exact ⟨h0, h1⟩
    · exact ih _ _ (Int.emod_nonneg _ (by decide)) (Int.emod_lt_of_pos _ (by decide))
theorem hsh_bd (r : Int) (l : List Int) : 0 ≤ hsh r l ∧ hsh r l < pp := hb_bd r _ _ _ (by decide) (by decide)
theorem nv_num (v : Int) : nv (v % 17592186044416) (v / 17592186044416 % 17592186044416) (v / 309485009821345068724781056) = v := by
  unfold nv
  omega
theorem vl_zeros (n : Nat) : vl (List.replicate n 0) = 0 := by
  induction n with
  | zero => rfl
  | succ n ih => rw [List.replicate_succ, vl, ih]; rfl
theorem vl_pad (l : List Int) (n : Nat) : vl (l ++ List.replicate n 0) = vl l := by rw [vl_append, vl_zeros]; omega
theorem vl_full (l : List Int) (h : l.length = 16) : vl (l ++ [1]) = vl l + 340282366920938463463374607431768211456 := by
  rw [vl_append, h]
  simp [vl]
theorem tag_length (k l : List Int) : (tag k l).length = 16 := les_length _ _
theorem tag_bys (k l : List Int) : Bys (tag k l) := les_bys _ _
theorem rr_bd {k : List Int} (hk : k.length = 32) (hb : Bys k) : 0 ≤ rr k ∧ rr k < 21267647932558653966460912964485513216 := by
  obtain ⟨b0, b1, b2, b3, b4, b5, b6, b7, b8, b9, b10, b11, b12, b13, b14, b15, e⟩ := sixteen (l := k.take 16) (by rw [List.length_take, hk]; rfl)
  have hB := hb.take 16
  unfold rr
  rw [e] at hB ⊢
  simp only [Bys, List.forall_mem_cons] at hB
  simp only [clr, vl]
  omega
theorem add_emod (x y r : Int) : (x % pp + y) * r % pp = (x + y) * r % pp := by
  rw [Int.mul_emod, Int.emod_add_emod, ← Int.mul_emod]
end Go.Proofs.Ytcoggpedpclkaaa
