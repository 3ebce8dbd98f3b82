/- poly.cleared: a key's r: contract. Conditions: bytes, their number. -/
import Derived.Test.YtbafppdmlhogbaaT
import Derived.Test.YtbafppdmlhogbaaK
namespace Go.Proofs.Ytbafppdmlhogbaa
set_option linter.unusedSimpArgs false
set_option linter.unusedVariables false
open Go.RowKit

/-- The bytes of r: the bits that are cleared. -/
def clr : List Int → List Int
  | [b0, b1, b2, b3, b4, b5, b6, b7, b8, b9, b10, b11, b12, b13, b14, b15] => [b0, b1, b2, b3 % 16, b4 - b4 % 4, b5, b6, b7 % 16, b8 - b8 % 4, b9, b10, b11 % 16, b12 - b12 % 4, b13, b14, b15 % 16]
  | l => l
theorem sixteenP {l : List Int} (h : l.length = 16) : ∃ b0 b1 b2 b3 b4 b5 b6 b7 b8 b9 b10 b11 b12 b13 b14 b15, l = [b0, b1, b2, b3, b4, b5, b6, b7, b8, b9, b10, b11, b12, b13, b14, b15] := by
  match l, h with
  | [b0, b1, b2, b3, b4, b5, b6, b7, b8, b9, b10, b11, b12, b13, b14, b15], _ => exact ⟨b0, b1, b2, b3, b4, b5, b6, b7, b8, b9, b10, b11, b12, b13, b14, b15, rfl⟩
theorem clr_length {l : List Int} (h : l.length = 16) : (clr l).length = 16 := by
  obtain ⟨b0, b1, b2, b3, b4, b5, b6, b7, b8, b9, b10, b11, b12, b13, b14, b15, rfl⟩ := sixteenP h
  rfl
theorem clr_bys {l : List Int} (h : l.length = 16) (hb : Bys l) : Bys (clr l) := by
  obtain ⟨b0, b1, b2, b3, b4, b5, b6, b7, b8, b9, b10, b11, b12, b13, b14, b15, rfl⟩ := sixteenP h
  simp only [Bys, List.forall_mem_cons] at hb
  simp only [Bys, clr, List.forall_mem_cons]
  obtain ⟨h0, h1, h2, h3, h4, h5, h6, h7, h8, h9, h10, h11, h12, h13, h14, h15, h16⟩ := hb
  refine ⟨h0, h1, h2, by omega, by omega, h5, h6, by omega, by omega, h9, h10, by omega, by omega, h13, h14, by omega, h16⟩
theorem u8_not3 (x : Int) (h0 : 0 ≤ x) (h1 : x ≤ 255) : bits .andNot .u8 x 3 = x - x % 4 := by
  obtain ⟨x, rfl⟩ := Int.eq_ofNat_of_zero_le h0
  have h := u8_andNot_nat x 3 (by omega) (by omega)
  have e : x &&& (255 - 3) = x - x % 4 := by
    have : ∀ y : Fin 256, y.val &&& (255 - 3) = y.val - y.val % 4 := by decide +kernel
    exact this ⟨x, by omega⟩
  rw [e] at h
  refine h.trans ?_
  omega

set_option maxRecDepth 100000 in
set_option maxHeartbeats 8000000 in
theorem cleared_is (l : List Int) (w : World) (hl : l.length = 16) (hb : Bys l) :
    Calls Try.prog 36 #[.agg (vs .u8 l)] w fun e w' => e = .returned (.agg (vs .u8 (clr l))) ∧ Fr (fun _ => False) w w' := by
  obtain ⟨b0, b1, b2, b3, b4, b5, b6, b7, b8, b9, b10, b11, b12, b13, b14, b15, rfl⟩ := sixteenP hl
  have e3 : bits .and .u8 b3 15 = b3 % 16 := u8_and15 b3 (hb b3 (by simp)).1 (by have := (hb b3 (by simp)).2; omega)
  have e7 : bits .and .u8 b7 15 = b7 % 16 := u8_and15 b7 (hb b7 (by simp)).1 (by have := (hb b7 (by simp)).2; omega)
  have e11 : bits .and .u8 b11 15 = b11 % 16 := u8_and15 b11 (hb b11 (by simp)).1 (by have := (hb b11 (by simp)).2; omega)
  have e15 : bits .and .u8 b15 15 = b15 % 16 := u8_and15 b15 (hb b15 (by simp)).1 (by have := (hb b15 (by simp)).2; omega)
  have e4 : bits .andNot .u8 b4 3 = b4 - b4 % 4 := u8_not3 b4 (hb b4 (by simp)).1 (hb b4 (by simp)).2
  have e8 : bits .andNot .u8 b8 3 = b8 - b8 % 4 := u8_not3 b8 (hb b8 (by simp)).1 (hb b8 (by simp)).2
  have e12 : bits .andNot .u8 b12 3 = b12 - b12 % 4 := u8_not3 b12 (hb b12 (by simp)).1 (hb b12 (by simp)).2
  show Calls Try.prog 36 #[.agg #[.int .u8 b0, .int .u8 b1, .int .u8 b2, .int .u8 b3, .int .u8 b4, .int .u8 b5, .int .u8 b6, .int .u8 b7, .int .u8 b8, .int .u8 b9, .int .u8 b10, .int .u8 b11, .int .u8 b12, .int .u8 b13, .int .u8 b14, .int .u8 b15]] w _
  clear hb hl
  go_enter Try.func36, Try.ntmps36
  go_wp2
  go_rounds 5
  go_rounds 4
  exact bodyPost_ret (results_cell_row Try.results36 _ _ _ 38 _ (0, 0) _ rfl (heap_alloc2_new _ _ _) Try.underlying38 rfl (by rw [info26]; rfl)) rfl ⟨rfl, ((Fr.refl _ _).alloc _).alloc _⟩
end Go.Proofs.Ytbafppdmlhogbaa
