/- The values of layer 8: a key's block, the tag of bytes under a key, what is extracted, what is expanded. Lemmas alone. -/
import Derived.Test.YtebknlhooijkcaaZu
import Derived.Test.YtebknlhooijkcaaRn
namespace Go.Proofs.Ytebknlhooijkcaa
set_option linter.unusedSimpArgs false
set_option linter.unusedVariables false
open Go.ChangeShapes Go.WideShapes Go.ChangeAt Go.RowKit


/-- A key's block, and each of its bytes xored. -/
def kb (k : List Int) : List Int := padz (if 64 < k.length then dig 32 [] k else k)
def xb (by_ : Int) (l : List Int) : List Int := l.map fun x => x8 x by_
/-- The tag of bytes under a key. -/
def hm (k b : List Int) : List Int := dig 32 [] (xb 92 (kb k) ++ dig 32 [] (xb 54 (kb k) ++ b))
/-- What is extracted. -/
def ext (salt ikm : List Int) : List Int := hm (if salt.length = 0 then List.replicate 32 0 else salt) ikm
/-- The tags of what is expanded, the first one being 1. -/
def ex (k info : List Int) : Nat → List Int
  | 0 => []
  | i + 1 => hm k ((ex k info i ++ info) ++ [((i + 1 : Nat) : Int) % 256])
/-- So many tags, one behind the other. -/
def exs (k info : List Int) : Nat → List Int
  | 0 => []
  | i + 1 => exs k info i ++ ex k info (i + 1)
/-- What Expand answers. -/
def expv (k info : List Int) (n : Int) : List Int × Int := if n < 0 then ([], 2) else if 8160 < n then ([], 5) else ((exs k info ((n.toNat + 31) / 32)).take n.toNat, 0)
theorem padz_length {l : List Int} (h : l.length ≤ 64) : (padz l).length = 64 := by rw [padz, List.length_append, List.length_replicate]; omega
theorem padz_bys {l : List Int} (h : Bys l) : Bys (padz l) := h.append (noughts6' _)
theorem kb_length (k : List Int) : (kb k).length = 64 := by
  unfold kb
  split
  · exact padz_length (by rw [dig_length (by decide)]; decide)
  · exact padz_length (by omega)
theorem kb_bys {k : List Int} (h : Bys k) : Bys (kb k) := by
  unfold kb
  split
  · exact padz_bys (dig_bys _ _ _)
  · exact padz_bys h
theorem xb_length (y : Int) (l : List Int) : (xb y l).length = l.length := by simp [xb]
theorem xb_get {y : Int} {l : List Int} {i : Nat} {x : Int} (h : l[i]? = some x) : (xb y l)[i]? = some (x8 x y) := by simp [xb, h]
theorem xb_bys {y : Int} {l : List Int} (hy : 0 ≤ y ∧ y ≤ 255) (h : Bys l) : Bys (xb y l) := fun b hb => by
  simp only [xb, List.mem_map] at hb
  obtain ⟨x, hx, rfl⟩ := hb
  exact x8_by (h x hx) hy
theorem hm_length (k b : List Int) : (hm k b).length = 32 := dig_length (by decide) _ _
theorem hm_bys (k b : List Int) : Bys (hm k b) := dig_bys _ _ _
theorem ext_length (s b : List Int) : (ext s b).length = 32 := hm_length _ _
theorem ext_bys (s b : List Int) : Bys (ext s b) := hm_bys _ _
theorem ex_length (k info : List Int) (i : Nat) : (ex k info (i + 1)).length = 32 := hm_length _ _
theorem ex_bys (k info : List Int) (i : Nat) : Bys (ex k info i) := by
  cases i with
  | zero => exact Bys.nil
  | succ i => exact hm_bys _ _
theorem exs_length (k info : List Int) (i : Nat) : (exs k info i).length = 32 * i := by
  induction i with
  | zero => rfl
  | succ i ih => rw [exs, List.length_append, ih, ex_length]; omega
theorem exs_bys (k info : List Int) (i : Nat) : Bys (exs k info i) := by
  induction i with
  | zero => exact Bys.nil
  | succ i ih => exact ih.append (ex_bys _ _ _)
/-- Fewer are the beginning of more. -/
theorem exs_take (k info : List Int) (i j : Nat) (h : i ≤ j) : (exs k info j).take (32 * i) = exs k info i := by
  induction j with
  | zero => obtain rfl : i = 0 := by omega
            rfl
  | succ j ih =>
    by_cases e : i = j + 1
    · subst e
      exact List.take_of_length_le (by rw [exs_length]; exact Nat.le_refl _)
    · rw [exs, List.take_append_of_le_length (by rw [exs_length]; omega)]
      exact ih (by omega)
theorem expv_bys (k info : List Int) (n : Int) : Bys (expv k info n).1 := by
  unfold expv
  split
  · exact Bys.nil
  · split
    · exact Bys.nil
    · exact (exs_bys _ _ _).take _
end Go.Proofs.Ytebknlhooijkcaa
