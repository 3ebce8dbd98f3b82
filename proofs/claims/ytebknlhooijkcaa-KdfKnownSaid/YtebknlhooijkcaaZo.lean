/- The reference's Of where it is refused; lemmas. No condition. -/
import Derived.Test.YtebknlhooijkcaaZpn
import Derived.Test.YtebknlhooijkcaaZpy
import Derived.Test.YtebknlhooijkcaaZq
namespace Go.Proofs.Ytebknlhooijkcaa
set_option linter.unusedSimpArgs false
set_option linter.unusedVariables false
open Go.ChangeShapes Go.WideShapes Go.ChangeAt Go.RowKit


set_option maxHeartbeats 4000000 in
theorem rof_no (size : Int) (A1 : Option Addr) (m1 c1 : Nat) (A2 : Option Addr) (m2 c2 : Nat) (w : World) (h : size < 1 ∨ 32 < size ∨ 32 < m1) :
    Calls Try.prog 35 #[.int .i64 size, .slice A1 m1 c1, .slice A2 m2 c2] w fun e w' => e = .returned (.tuple #[.slice none 0 0, .int .i64 2]) ∧ Fr (fun _ => False) w w' := by
  have hc : size < 1 ∨ (¬ size < 1 ∧ 32 < size) ∨ (¬ size < 1 ∧ ¬ 32 < size ∧ (32 : Int) < m1) := by omega
  clear h
  rcases hc with j | ⟨j, j2⟩ | ⟨j, j2, j3⟩
  all_goals
    go_enter Try.func35, Try.ntmps35
    go_wp2
    go_ret2
    exact ⟨rfl, Fr.refl _ _⟩
/-- A digest's bytes, one by one. -/
theorem bsw_at (l : List Int) (i : Nat) (x : Int) (h : l[i / 4]? = some x) : (bsw l)[i]? = some (x / 2 ^ (8 * (i % 4)) % 256) := by
  have e := bsw_get l (i / 4) x h
  rcases (by omega : i % 4 = 0 ∨ i % 4 = 1 ∨ i % 4 = 2 ∨ i % 4 = 3) with r | r | r | r
  · rw [r, show i = 4 * (i / 4) by omega]; simpa using e.1
  · rw [r, show i = 4 * (i / 4) + 1 by omega]; simpa using e.2.1
  · rw [r, show i = 4 * (i / 4) + 2 by omega]; simpa using e.2.2.1
  · rw [r, show i = 4 * (i / 4) + 3 by omega]; simpa using e.2.2.2
theorem eat_last (h l : List Int) (N : Nat) (hN : l.length = N) : digh h l = prs (eat h l (nbl N)) (padz (l.drop (64 * nbl N))) (N : Int) true := by rw [digh, hN]
theorem noughts6' (m : Nat) : Bys (List.replicate m 0) := fun b hb => by rw [List.eq_of_mem_replicate hb]; decide
theorem nbl_le (N : Nat) : 64 * nbl N ≤ N := by unfold nbl; omega
theorem nbl_rest (N : Nat) : N - 64 * nbl N ≤ 64 := by unfold nbl; omega
theorem nbl_lt {N i : Nat} (h : i < nbl N) : 64 * i + 64 < N := by unfold nbl at h; omega
theorem nbl_not {N i : Nat} (h : ¬ i < nbl N) : N ≤ 64 * i + 64 := by unfold nbl at h; omega
end Go.Proofs.Ytebknlhooijkcaa
