/- The reference's octet: a byte of a number's bits. Condition: the bits of a number lie in a block. -/
import Derived.Test.YtkkicekhkidhjaaRI
namespace Go.Proofs.Ytkkicekhkidhjaa
set_option linter.unusedSimpArgs false
set_option linter.unusedVariables false
open Go.RowKit

theorem bit_next (x : Int) (j : Nat) (h : j < 8) : 2 * (x / 2 % 2 ^ j) + x % 2 = x % 2 ^ (j + 1) := by
  have : j = 0 ∨ j = 1 ∨ j = 2 ∨ j = 3 ∨ j = 4 ∨ j = 5 ∨ j = 6 ∨ j = 7 := by omega
  rcases this with rfl | rfl | rfl | rfl | rfl | rfl | rfl | rfl
  · show 2 * (x / 2 % 1) + x % 2 = x % 2; omega
  · show 2 * (x / 2 % 2) + x % 2 = x % 4; omega
  · show 2 * (x / 2 % 4) + x % 2 = x % 8; omega
  · show 2 * (x / 2 % 8) + x % 2 = x % 16; omega
  · show 2 * (x / 2 % 16) + x % 2 = x % 32; omega
  · show 2 * (x / 2 % 32) + x % 2 = x % 64; omega
  · show 2 * (x / 2 % 64) + x % 2 = x % 128; omega
  · show 2 * (x / 2 % 128) + x % 2 = x % 256; omega
theorem low_bits (x : Int) (j : Nat) (h : j ≤ 8) : 0 ≤ x % 2 ^ j ∧ x % 2 ^ j ≤ 255 := by
  have : j = 0 ∨ j = 1 ∨ j = 2 ∨ j = 3 ∨ j = 4 ∨ j = 5 ∨ j = 6 ∨ j = 7 ∨ j = 8 := by omega
  rcases this with rfl | rfl | rfl | rfl | rfl | rfl | rfl | rfl | rfl
  · show 0 ≤ x % 1 ∧ x % 1 ≤ 255; omega
  · show 0 ≤ x % 2 ∧ x % 2 ≤ 255; omega
  · show 0 ≤ x % 4 ∧ x % 4 ≤ 255; omega
  · show 0 ≤ x % 8 ∧ x % 8 ≤ 255; omega
  · show 0 ≤ x % 16 ∧ x % 16 ≤ 255; omega
  · show 0 ≤ x % 32 ∧ x % 32 ≤ 255; omega
  · show 0 ≤ x % 64 ∧ x % 64 ≤ 255; omega
  · show 0 ≤ x % 128 ∧ x % 128 ≤ 255; omega
  · show 0 ≤ x % 256 ∧ x % 256 ≤ 255; omega
/-- The byte at a place, the highest first. -/
def byat (v : Int) (k : Nat) : Int := v / 2 ^ (56 - 8 * k) % 256
set_option maxHeartbeats 2000000 in
theorem octet_any (v : Int) (g k cap : Nat) (w : World) (h : Ar w g 3 .i64 (bitl v)) (hk : k < 8) :
    Calls Try.prog 44 #[.slice (some ⟨g, 8 * k, none⟩) 8 cap] w fun e w' => e = .returned (.int .u8 (byat v k)) ∧ w = w' := by
  have H := Lib.hid h
  clear h
  go_enter Try.func44, Try.ntmps44
  go_wp2
  go_loopw [3, 4] (fun u3 u4 wr => ∃ j : Nat, u3 = .int .i64 (v / 2 ^ (64 - 8 * k - j) % 2 ^ j) ∧ u4 = .int .i64 j ∧ j ≤ 8 ∧ wr = w)
    (fun _ u4 _ => 8 - (intOf u4).toNat)
  case atStart => exact ⟨0, by simp, rfl, by omega, rfl⟩
  case round =>
    obtain ⟨j, rfl, rfl, hj, rfl⟩ := hrel
    by_cases hjl : j < 8
    · obtain ⟨s, hs⟩ : ∃ s, 63 - 8 * k - j = s := ⟨_, rfl⟩
      obtain ⟨n, hn⟩ : ∃ n, v / 2 ^ (64 - 8 * k - j) % 2 ^ j = n := ⟨_, rfl⟩
      have nb := low_bits (v / 2 ^ (64 - 8 * k - j)) j hj
      rw [hn] at nb
      obtain ⟨x, hx⟩ : ∃ x, v / 2 ^ s = x := ⟨_, rfl⟩
      have hb := bitl_get v (8 * k + j) (by omega)
      rw [show 63 - (8 * k + j) = s by omega, hx] at hb
      have hnext : Unit → v / 2 ^ (64 - 8 * k - (j + 1)) % 2 ^ (j + 1) = 2 * n + x % 2 := fun _ => by
        rw [show 64 - 8 * k - (j + 1) = s by omega, hx, ← bit_next x j hjl, ← hn, show 64 - 8 * k - j = s + 1 by omega, ← half, hx]
      obtain ⟨y, hy⟩ : ∃ y, x % 2 = y := ⟨_, rfl⟩
      have yb : 0 ≤ y ∧ y ≤ 1 := by omega
      rw [hy] at hb hnext
      have c1 := Ar.cell H.out hb
      have n0 := nb.1
      have n9 := nb.2
      have y0 := yb.1
      have y1 := yb.2
      rw [hn]
      clear hs hx hb nb yb hy hn
      go_wp2
      go_roundw
      case rel => exact ⟨j + 1, by rw [hnext ()], by go_num, by omega, by first | rfl | trivial⟩
      case measure => simp [intOf]; omega
    · have j8 : j = 8 := by omega
      have nb := low_bits (v / 2 ^ (64 - 8 * k - j)) j hj
      have e : v / 2 ^ (64 - 8 * k - j) % 2 ^ j = byat v k := by
        rw [j8, show 64 - 8 * k - 8 = 56 - 8 * k by omega]
        rfl
      rw [e] at nb
      rw [e]
      obtain ⟨n, hn⟩ : ∃ n, byat v k = n := ⟨_, rfl⟩
      rw [hn] at nb
      rw [hn]
      have HN : Unit → byat v k = n := fun _ => hn
      have wn : IntKind.u8.wrap n = n := by rw [IntKind.wrap_u8]; omega
      clear e hn nb j8
      go_wp2
      go_ret
      exact ⟨by rw [HN ()]; first | rfl | simp, rfl⟩
end Go.Proofs.Ytkkicekhkidhjaa
