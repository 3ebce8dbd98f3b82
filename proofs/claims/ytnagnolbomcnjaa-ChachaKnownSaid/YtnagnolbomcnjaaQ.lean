/- Words of 32 bits turned; quarter rounds: contracts. Condition: words. -/
import Derived.Test.YtnagnolbomcnjaaK
namespace Go.Proofs.Ytnagnolbomcnjaa
set_option linter.unusedSimpArgs false
set_option linter.unusedVariables false
open Go.RowKit

/-- A word of 32 bits. -/
def Wd (x : Int) : Prop := 0 ≤ x ∧ x ≤ 4294967295
/-- Turned left. -/
def tl (n : Nat) (x : Int) : Int := x % 2 ^ (32 - n) * 2 ^ n + x / 2 ^ (32 - n)
theorem tl16 (x : Int) : tl 16 x = x % 65536 * 65536 + x / 65536 := rfl
theorem or16 (x : Int) (h : Wd x) : bits .or .u32 (IntKind.u32.wrap (x * 65536)) (x / 65536) = tl 16 x := by
  unfold Wd at h
  rw [tl16, IntKind.wrap_u32, show x * 65536 % 4294967296 = x % 65536 * 65536 by omega]
  exact bits_join .u32 32 (by decide) (fun n h0 h1 => by rw [IntKind.wrap_u32]; omega) 16 (x % 65536 * 65536) (x / 65536) (by omega) (by omega) (by omega) (by omega) (by omega) (by omega)
theorem turned16 (x : Int) (h : Wd x) (w : World) : Calls Try.prog 31 #[.int .u32 x, .int .u64 16] w fun e w' => e = .returned (.int .u32 (tl 16 x)) ∧ w = w' := by
  have e := or16 x h
  have h0 := h.1
  have h1 := h.2
  go_enter Try.func31, Try.ntmps31
  go_wp2
  go_ret
  exact ⟨by first | (rw [← e]; rfl) | rw [← e], rfl⟩
theorem turn16 (x : Int) (h : Wd x) (w : World) : Calls Try.prog 25 #[.int .u32 x, .int .i64 16] w fun e w' => e = .returned (.int .u32 (tl 16 x)) ∧ Fr (fun _ => False) w w' := by
  have e := or16 x h
  have h0 := h.1
  have h1 := h.2
  go_enter Try.func25, Try.ntmps25
  go_wp2
  go_quiet (fail)
  go_wp2
  go_ret
  exact ⟨by first | (rw [← e]; rfl) | rw [← e], (Fr.refl _ _).drewN _⟩
theorem tl12 (x : Int) : tl 12 x = x % 1048576 * 4096 + x / 1048576 := rfl
theorem or12 (x : Int) (h : Wd x) : bits .or .u32 (IntKind.u32.wrap (x * 4096)) (x / 1048576) = tl 12 x := by
  unfold Wd at h
  rw [tl12, IntKind.wrap_u32, show x * 4096 % 4294967296 = x % 1048576 * 4096 by omega]
  exact bits_join .u32 32 (by decide) (fun n h0 h1 => by rw [IntKind.wrap_u32]; omega) 12 (x % 1048576 * 4096) (x / 1048576) (by omega) (by omega) (by omega) (by omega) (by omega) (by omega)
theorem turned12 (x : Int) (h : Wd x) (w : World) : Calls Try.prog 31 #[.int .u32 x, .int .u64 12] w fun e w' => e = .returned (.int .u32 (tl 12 x)) ∧ w = w' := by
  have e := or12 x h
  have h0 := h.1
  have h1 := h.2
  go_enter Try.func31, Try.ntmps31
  go_wp2
  go_ret
  exact ⟨by first | (rw [← e]; rfl) | rw [← e], rfl⟩
theorem turn12 (x : Int) (h : Wd x) (w : World) : Calls Try.prog 25 #[.int .u32 x, .int .i64 12] w fun e w' => e = .returned (.int .u32 (tl 12 x)) ∧ Fr (fun _ => False) w w' := by
  have e := or12 x h
  have h0 := h.1
  have h1 := h.2
  go_enter Try.func25, Try.ntmps25
  go_wp2
  go_quiet (fail)
  go_wp2
  go_ret
  exact ⟨by first | (rw [← e]; rfl) | rw [← e], (Fr.refl _ _).drewN _⟩
theorem tl8 (x : Int) : tl 8 x = x % 16777216 * 256 + x / 16777216 := rfl
theorem or8 (x : Int) (h : Wd x) : bits .or .u32 (IntKind.u32.wrap (x * 256)) (x / 16777216) = tl 8 x := by
  unfold Wd at h
  rw [tl8, IntKind.wrap_u32, show x * 256 % 4294967296 = x % 16777216 * 256 by omega]
  exact bits_join .u32 32 (by decide) (fun n h0 h1 => by rw [IntKind.wrap_u32]; omega) 8 (x % 16777216 * 256) (x / 16777216) (by omega) (by omega) (by omega) (by omega) (by omega) (by omega)
theorem turned8 (x : Int) (h : Wd x) (w : World) : Calls Try.prog 31 #[.int .u32 x, .int .u64 8] w fun e w' => e = .returned (.int .u32 (tl 8 x)) ∧ w = w' := by
  have e := or8 x h
  have h0 := h.1
  have h1 := h.2
  go_enter Try.func31, Try.ntmps31
  go_wp2
  go_ret
  exact ⟨by first | (rw [← e]; rfl) | rw [← e], rfl⟩
theorem turn8 (x : Int) (h : Wd x) (w : World) : Calls Try.prog 25 #[.int .u32 x, .int .i64 8] w fun e w' => e = .returned (.int .u32 (tl 8 x)) ∧ Fr (fun _ => False) w w' := by
  have e := or8 x h
  have h0 := h.1
  have h1 := h.2
  go_enter Try.func25, Try.ntmps25
  go_wp2
  go_quiet (fail)
  go_wp2
  go_ret
  exact ⟨by first | (rw [← e]; rfl) | rw [← e], (Fr.refl _ _).drewN _⟩
theorem tl7 (x : Int) : tl 7 x = x % 33554432 * 128 + x / 33554432 := rfl
theorem or7 (x : Int) (h : Wd x) : bits .or .u32 (IntKind.u32.wrap (x * 128)) (x / 33554432) = tl 7 x := by
  unfold Wd at h
  rw [tl7, IntKind.wrap_u32, show x * 128 % 4294967296 = x % 33554432 * 128 by omega]
  exact bits_join .u32 32 (by decide) (fun n h0 h1 => by rw [IntKind.wrap_u32]; omega) 7 (x % 33554432 * 128) (x / 33554432) (by omega) (by omega) (by omega) (by omega) (by omega) (by omega)
theorem turned7 (x : Int) (h : Wd x) (w : World) : Calls Try.prog 31 #[.int .u32 x, .int .u64 7] w fun e w' => e = .returned (.int .u32 (tl 7 x)) ∧ w = w' := by
  have e := or7 x h
  have h0 := h.1
  have h1 := h.2
  go_enter Try.func31, Try.ntmps31
  go_wp2
  go_ret
  exact ⟨by first | (rw [← e]; rfl) | rw [← e], rfl⟩
theorem turn7 (x : Int) (h : Wd x) (w : World) : Calls Try.prog 25 #[.int .u32 x, .int .i64 7] w fun e w' => e = .returned (.int .u32 (tl 7 x)) ∧ Fr (fun _ => False) w w' := by
  have e := or7 x h
  have h0 := h.1
  have h1 := h.2
  go_enter Try.func25, Try.ntmps25
  go_wp2
  go_quiet (fail)
  go_wp2
  go_ret
  exact ⟨by first | (rw [← e]; rfl) | rw [← e], (Fr.refl _ _).drewN _⟩
end Go.Proofs.Ytnagnolbomcnjaa
