/- Half, one and zero: what the end of FieldNames calls. No condition. -/
import Derived.Test.YtmhoblefpkjdlaaLawInverse
import Derived.Test.YtmhoblefpkjdlaaNamesM
namespace Go.Proofs.Ytmhoblefpkjdlaa
open Go.RowKit
def hv2 : Int := 28948022309329048855892746252171976963317496166410141009864396001978282409975
theorem half_list : lb 32 hv2 = 247 :: (List.replicate 30 255 ++ [63]) := by decide +kernel
theorem el_0 : El 0 := ⟨by decide, by unfold pp; decide⟩
theorem el_1 : El 1 := ⟨by decide, by unfold pp; decide⟩
theorem el_2 : El 2 := ⟨by decide, by unfold pp; decide⟩
theorem el_h : El hv2 := ⟨by unfold hv2; decide, by unfold hv2 pp; decide⟩
theorem half_of (t : Int) (h0 : 0 ≤ t) (h1 : t < pp) (h : 2 * t % pp = 1) : t = hv2 := by
  have hp : pp = 2 * hv2 - 1 := by decide +kernel
  rcases Int.lt_or_le (2 * t) pp with hlt | hle
  · rw [Int.emod_eq_of_lt (by omega) hlt] at h
    omega
  · have e : 2 * t = (2 * t - pp) + pp * 1 := by omega
    rw [e, Int.add_mul_emod_self_left, Int.emod_eq_of_lt (by omega) (by omega)] at h
    omega
theorem one_of (t : Int) (h0 : 0 ≤ t) (h1 : t < pp) (h : 1 * t % pp = 1) : t = 1 := by
  rw [Int.one_mul, Int.emod_eq_of_lt h0 h1] at h
  exact h
theorem inv_2 (u : Int) (h : u = 2) : pwr u (ex 0) = hv2 := by
  have h1 := inv_one (u := u) (by rw [h]; exact el_2) (by omega)
  have h2 := pwr_el u (ex 0)
  revert h1 h2
  generalize pwr u (ex 0) = t
  intro h1 h2
  rw [h] at h1
  exact half_of t h2.1 h2.2 h1
theorem inv_1 (u : Int) (h : u = 1) : pwr u (ex 0) = u := by
  have h1 := inv_one (u := u) (by rw [h]; exact el_1) (by omega)
  have h2 := pwr_el u (ex 0)
  revert h1 h2
  generalize pwr u (ex 0) = t
  intro h1 h2
  rw [h] at h1
  rw [h]
  exact one_of t h2.1 h2.2 h1
theorem call_2 (u : Int) (h : u = 2) (W : World) : Calls Try.prog 27 #[el u] W fun e w' => e = .returned (el hv2) ∧ Fr (fun _ => False) W w' := by
  have h1 := inv_is u W (by rw [h]; exact el_2)
  rw [inv_2 u h] at h1
  exact h1
theorem call_1 (u : Int) (h : u = 1) (W : World) : Calls Try.prog 27 #[el u] W fun e w' => e = .returned (el u) ∧ Fr (fun _ => False) W w' := by
  have h1 := inv_is u W (by rw [h]; exact el_1)
  rw [inv_1 u h] at h1
  exact h1
theorem tail_facts : ∃ (H : List Int) (v2 vh v0 v1 : Value), H.length = 32 ∧ H[0]? = some 247 ∧ H[1]? = some 255 ∧ H[31]? = some 63 ∧
    (∀ W, Calls Try.prog 19 #[.int .u32 2] W fun e w' => e = .returned v2 ∧ Fr (fun _ => False) W w') ∧
    (∀ W, Calls Try.prog 27 #[v2] W fun e w' => e = .returned vh ∧ Fr (fun _ => False) W w') ∧
    (∀ W, Calls Try.prog 32 #[vh] W fun e w' => e = .returned (.agg (vs .u8 H)) ∧ Fr (fun _ => False) W w') ∧
    (∀ W, Calls Try.prog 18 #[.agg #[.int .u64 0, .int .u64 0, .int .u64 0, .int .u64 0]] W fun e w' => e = .returned (.bool true) ∧ Fr (fun _ => False) W w') ∧
    (∀ W, Calls Try.prog 19 #[.int .u32 0] W fun e w' => e = .returned v0 ∧ Fr (fun _ => False) W w') ∧
    (∀ W, Calls Try.prog 30 #[.agg #[.int .u64 0, .int .u64 0, .int .u64 0, .int .u64 0], v0] W fun e w' => e = .returned (.bool true) ∧ Fr (fun _ => False) W w') ∧
    (∀ W, Calls Try.prog 19 #[.int .u32 1] W fun e w' => e = .returned v1 ∧ Fr (fun _ => False) W w') ∧
    (∀ W, Calls Try.prog 27 #[v1] W fun e w' => e = .returned v1 ∧ Fr (fun _ => False) W w') ∧
    (∀ W, Calls Try.prog 30 #[v1, v1] W fun e w' => e = .returned (.bool true) ∧ Fr (fun _ => False) W w') := by
  refine ⟨lb 32 hv2, el 2, el hv2, el 0, el 1, lb_length _ _, by rw [half_list]; rfl, by rw [half_list]; rfl, by rw [half_list]; rfl, fun W => small_is 2 W (by decide) (by decide), fun W => call_2 2 rfl W, fun W => ebytes_is hv2 W el_h, fun W => zero_w1 (ws_small 0 (by decide) (by decide)) rfl W,
    fun W => small_is 0 W (by decide) (by decide), fun W => same_w1 (ws_small 0 (by decide) (by decide)) el_0 rfl W, fun W => small_is 1 W (by decide) (by decide), fun W => call_1 1 rfl W, fun W => same_yes 1 1 W el_1 el_1 rfl⟩
end Go.Proofs.Ytmhoblefpkjdlaa
