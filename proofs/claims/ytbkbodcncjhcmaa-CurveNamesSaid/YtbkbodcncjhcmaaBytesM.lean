/- Bytes of elements: plain mathematics for FieldBytes. No condition: lemmas alone. -/
import Derived.Test.YtbkbodcncjhcmaaWordsW
import Derived.Test.YtbkbodcncjhcmaaRefE
namespace Go.Proofs.Ytbkbodcncjhcmaa
open Go.RowKit

theorem xor128 (b : Int) (h0 : 0 ≤ b) (h1 : b ≤ 255) : bits .xor .u8 b 128 = (b + 128) % 256 := by
  have h : (List.range 256).all (fun b => decide (bits .xor .u8 (b : Int) 128 = ((b : Int) + 128) % 256)) = true := by decide +kernel
  obtain ⟨n, rfl⟩ := Int.eq_ofNat_of_zero_le h0
  rw [List.all_eq_true] at h
  simpa using h n (by simp; omega)
theorem fe_lb {u : Int} (h : El u) : fe (lb 32 u) = u := by
  obtain ⟨h0, h1⟩ := h
  unfold fe
  rw [vl_lb, p256_4]
  unfold pp at *
  unfold p255
  omega
theorem vl_set (l : List Int) (k : Nat) (y : Int) (h : k < l.length) : vl (l.set k y) = vl l + 256 ^ k * (y - l.getD k 0) := by
  induction l generalizing k with
  | nil => simp at h
  | cons b r ih =>
    cases k with
    | zero => simp [vl]; omega
    | succ k =>
      simp only [List.set_cons_succ, vl, List.getD_cons_succ, Int.pow_succ]
      rw [ih k (by simpa using h)]
      grind
theorem p256_31 : (256 : Int) ^ 31 = 452312848583266388373324160190187140051835877600158453279131187530910662656 := by decide
/-- The highest bit counts nothing. -/
theorem fe_top (l : List Int) (hl : l.length = 32) (bl : Bys l) : fe (l.set 31 ((l.getD 31 0 + 128) % 256)) = fe l := by
  unfold fe
  have hb := bl (l.getD 31 0) (List.mem_of_getElem? (getD_some (by omega)))
  rw [vl_set l 31 _ (by omega), p256_31]
  congr 1
  unfold p255
  omega
theorem bys_set {l : List Int} (h : Bys l) (k : Nat) {y : Int} (hy : 0 ≤ y ∧ y ≤ 255) : Bys (l.set k y) := by
  intro b hb
  rcases List.mem_or_eq_of_mem_set hb with hb | rfl
  · exact h b hb
  · exact hy
theorem top_127 {u : Int} (h : El u) : (lb 32 u).getD 31 0 ≤ 127 := by
  have g := getD_some (l := lb 32 u) (i := 31) (by rw [lb_length]; omega)
  rw [List.getElem?_eq_getElem (by rw [lb_length]; omega), lb_get 32 u 31 (by omega)] at g
  injection g with g
  rw [← g, p256_31]
  obtain ⟨h0, h1⟩ := h
  unfold pp at h1
  omega
/-- Are the bytes from 1 on, below k, 255, and the last one 127? -/
def tp (c : List Int) : Nat → Bool
  | 0 => c.getD 31 0 == 127
  | k + 1 => tp c k && (c.getD (k + 1) 0 == 255)
theorem tp_spec (c : List Int) (k : Nat) (h : tp c k = true) : c.getD 31 0 = 127 ∧ ∀ j, 1 ≤ j → j ≤ k → c.getD j 0 = 255 := by
  induction k with
  | zero => exact ⟨by simpa [tp] using h, fun j h1 h2 => by omega⟩
  | succ k ih =>
    simp only [tp, Bool.and_eq_true, beq_iff_eq] at h
    obtain ⟨h1, h2⟩ := ih h.1
    refine ⟨h1, fun j hj1 hj2 => ?_⟩
    by_cases hj : j = k + 1
    · rw [hj]; exact h.2
    · exact h2 j hj1 (by omega)
theorem low_237 {u : Int} (h : El u) (ht : tp (lb 32 u) 30 = true) : (lb 32 u).getD 0 0 < 237 := by
  obtain ⟨h1, h2⟩ := tp_spec _ _ ht
  have e : lb 32 u = (lb 32 u).getD 0 0 :: (List.replicate 30 255 ++ [127]) := by
    apply List.ext_getElem
    · rw [lb_length]; rfl
    · intro i hi hi2
      rw [lb_length] at hi
      have g := getD_some (l := lb 32 u) (i := i) (by rw [lb_length]; exact hi)
      rw [List.getElem?_eq_getElem (by rw [lb_length]; exact hi)] at g
      injection g with g
      rw [g]
      by_cases hi0 : i = 0
      · subst hi0; rfl
      · by_cases hi31 : i = 31
        · subst hi31
          rw [h1]
          rfl
        · rw [h2 i (by omega) (by omega)]
          obtain ⟨j, rfl⟩ : ∃ j, i = j + 1 := ⟨i - 1, by omega⟩
          rw [List.getElem_cons_succ, List.getElem_append_left (by simp; omega), List.getElem_replicate]
  have hv := vl_lb 32 u
  obtain ⟨h0, h3⟩ := h
  have hu : u % 256 ^ 32 = u := by
    rw [p256_4]
    unfold pp at h3
    omega
  rw [hu, e] at hv
  simp only [vl] at hv
  have hc : vl (List.replicate 30 255 ++ [127]) = 226156424291633194186662080095093570025917938800079226639565593765455331327 := by decide
  rw [hc] at hv
  unfold pp at h3
  omega
/-- A number below 19 and p more. -/
theorem fe_more (s : Int) (h0 : 0 ≤ s) (h1 : s ≤ 18) : fe (((List.replicate 32 255).set 31 127).set 0 (s + 237)) = s := by
  unfold fe
  rw [vl_set _ 0 _ (by simp)]
  have h2 : vl ((List.replicate 32 255).set 31 127) = 57896044618658097711785492504343953926634992332820282019728792003956564819967 := by decide
  have h3 : ((List.replicate 32 (255 : Int)).set 31 127).getD 0 0 = 255 := by decide
  rw [h2, h3]
  unfold p255 pp
  omega
theorem fe_small (s : Int) (h0 : 0 ≤ s) (h1 : s ≤ 18) : fe ((List.replicate 32 0).set 0 s) = s := by
  unfold fe
  rw [vl_set _ 0 _ (by simp)]
  have h2 : vl (List.replicate 32 (0 : Int)) = 0 := by decide
  have h3 : (List.replicate 32 (0 : Int)).getD 0 0 = 0 := by decide
  rw [h2, h3]
  unfold p255 pp
  omega

end Go.Proofs.Ytbkbodcncjhcmaa
