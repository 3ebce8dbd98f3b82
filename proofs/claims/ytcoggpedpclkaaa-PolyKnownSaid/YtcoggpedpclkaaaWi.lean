/- Numbers of 128 bits: wide.plus, wide.from: contracts. Conditions: words; no more than 128 bits come out. -/
import Derived.Test.YtcoggpedpclkaaaNm
namespace Go.Proofs.Ytcoggpedpclkaaa
set_option linter.unusedSimpArgs false
set_option linter.unusedVariables false
open Go.RowKit

theorem info64 : (Try.prog.info? 64).map (·.size) = some 2 := by kernel_rfl
def wd (V : Int) : Array Value := #[.int .u64 (V / 18446744073709551616), .int .u64 (V % 18446744073709551616)]
theorem wd_words {V : Int} (h0 : 0 ≤ V) (h1 : V < 340282366920938463463374607431768211456) : ∃ h l : Int, wd V = #[.int .u64 h, .int .u64 l] ∧ Wd h ∧ Wd l ∧ Hid (V = l + 18446744073709551616 * h) := by
  refine ⟨_, _, rfl, ⟨by omega, by omega⟩, ⟨by omega, by omega⟩, ?_⟩
  show _ = _
  omega
theorem wd_eq {V h l : Int} (hh : Wd h) (hl : Wd l) (e : V = l + 18446744073709551616 * h) : wd V = #[.int .u64 h, .int .u64 l] := by
  unfold Wd at hh hl
  have e1 : V / 18446744073709551616 = h := by omega
  have e2 : V % 18446744073709551616 = l := by omega
  rw [wd, e1, e2]
theorem wd_zero : wd 0 = #[.int .u64 0, .int .u64 0] := rfl
theorem wd_low {c : Int} (hc : Wd c) : wd c = #[.int .u64 0, .int .u64 c] := wd_eq ⟨by decide, by decide⟩ hc (by omega)

set_option maxHeartbeats 1000000 in
theorem plus_is (V a b R : Int) (w : World) (h0 : 0 ≤ V) (ha : Wd a) (hb : Wd b) (hR : V + a * b = R) (h1 : R < 340282366920938463463374607431768211456) :
    Calls Try.prog 38 #[.agg (wd V), .int .u64 a, .int .u64 b] w fun e w' => e = .returned (.agg (wd R)) ∧ Fr (fun _ => False) w w' := by
  obtain ⟨p, hp⟩ : ∃ p, p = a * b := ⟨_, rfl⟩
  have hp0 : 0 ≤ p := by rw [hp]; exact Int.mul_nonneg ha.1 hb.1
  have hp1 : p ≤ 18446744073709551615 * 18446744073709551615 := by
    rw [hp]
    exact Int.mul_le_mul (by have := ha.2; omega) (by have := hb.2; omega) hb.1 (by decide)
  rw [← hp] at hR
  obtain ⟨hi, lo, eV, whi, wlo, hV⟩ := wd_words h0 (by omega : V < 340282366920938463463374607431768211456)
  obtain ⟨h2, l2, eR, wh2, wl2, hR2⟩ := wd_words (by omega : 0 ≤ R) h1
  rw [eV, eR]
  obtain ⟨q, r, hr, hq, hpq⟩ : ∃ q r : Int, Wd r ∧ Wd q ∧ Hid (p = r + 18446744073709551616 * q) := ⟨p / 18446744073709551616, p % 18446744073709551616, ⟨by omega, by omega⟩, ⟨by omega, by omega⟩, by show _ = _; omega⟩
  have C : ∀ W, Calls Try.prog 42 #[.int .u64 a, .int .u64 b] W fun e w' => e = .returned (.tuple #[.int .u64 q, .int .u64 r]) ∧ W = w' := fun W => by
    refine (mul64_any a b ha.1 ha.2 hb.1 hb.2 W).mono ?_
    rintro e w' ⟨rfl, rfl⟩
    have h1 := hpq.out
    unfold Wd at hr hq
    refine ⟨?_, rfl⟩
    rw [← hp]
    have e1 : p / 18446744073709551616 = q := by omega
    have e2 : p % 18446744073709551616 = r := by omega
    rw [e1, e2]
  obtain ⟨s, k, hs, hk0, hk1, hsk, f1⟩ := run_add_ex r lo 0 hr wlo (by decide) (by decide)
  have g := hsk.out
  have gp := hpq.out
  have gV := hV.out
  have gR := hR2.out
  unfold Wd at ha hb whi wlo wh2 wl2 hr hq hs
  have w1 : IntKind.u64.wrap (q + hi) = q + hi := wrap_in _ ⟨by omega, by omega⟩
  have w2 : IntKind.u64.wrap (q + hi + k) = q + hi + k := wrap_in _ ⟨by omega, by omega⟩
  have e1 := Lib.hid (show s = l2 by omega)
  have e2 := Lib.hid (show q + hi + k = h2 by omega)
  clear g gp gV gR hp hp0 hp1 hR hR2 hV hpq hsk h0 h1 ha hb whi wlo wh2 wl2 hr hq hs eV eR
  go_enter Try.func38, Try.ntmps38
  go_upto_region 1 with (fail)
  generalize hW : (w.alloc (.cells #[.int .u64 hi, .int .u64 lo] 64)).alloc (.cells #[.int .u64 0, .int .u64 0] 64) = W0
  have HW := Lib.hid (calm2 hW)
  have c0 : W0.cell? ⟨w.heap.size, 0, none⟩ = some (.int .u64 hi) := cell_of_row _ _ _ _ _ _ HW.out.1
  have c1 : W0.cell? ⟨w.heap.size, 1, none⟩ = some (.int .u64 lo) := cell_of_row _ _ _ _ _ _ HW.out.1
  clear hW
  go_wp2_with (first
    | (go_at_call 42; refine (C _).mono ?_; rintro e w' ⟨rfl, rfl⟩)
    | refine wpList_store_row rfl 64 (.tmp 6) (.tmp 30) rfl (w.heap.size + 1) (vs .u64 [q + hi + k, s]) rfl rfl 64 _ HW.out.2.1 (by rw [info64]; rfl) rfl (vs_all _ _) ?_)
  refine bodyPost_ret (results_cell_row Try.results38 _ _ _ 64 _ (0, 0) _ rfl (setRow_heap _ _ _ _ _ _ HW.out.2.1) Try.underlying64 rfl (by rw [info64]; rfl)) rfl ⟨by rw [e1.out, e2.out]; rfl, HW.out.2.2.setRow _ (.inr (by omega))⟩

set_option maxHeartbeats 1000000 in
theorem from44_is (V R : Int) (w : World) (h0 : 0 ≤ V) (hR : V / 17592186044416 = R) (h1 : R < 18446744073709551616) :
    Calls Try.prog 39 #[.agg (wd V), .int .u64 44] w fun e w' => e = .returned (.int .u64 R) ∧ Fr (fun _ => False) w w' := by
  obtain ⟨hi, lo, eV, whi, wlo, hV⟩ := wd_words h0 (by omega : V < 340282366920938463463374607431768211456)
  rw [eV]
  have gV := hV.out
  unfold Wd at whi wlo
  have w1 : IntKind.u64.wrap (hi * 1048576) = hi * 1048576 := wrap_in _ ⟨by omega, by omega⟩
  have e1 : bits .or .u64 (hi * 1048576) (lo / 17592186044416) = R := (join' 20 (lo / 17592186044416) hi (by decide) (by omega) (by omega) (by omega) (by omega)).trans (by omega)
  clear gV hV h0 h1 hR whi wlo eV
  go_enter Try.func39, Try.ntmps39
  go_wp2
  go_ret
  exact ⟨rfl, (Fr.refl _ _).alloc _⟩

set_option maxHeartbeats 1000000 in
theorem from42_is (V R : Int) (w : World) (h0 : 0 ≤ V) (hR : V / 4398046511104 = R) (h1 : R < 18446744073709551616) :
    Calls Try.prog 39 #[.agg (wd V), .int .u64 42] w fun e w' => e = .returned (.int .u64 R) ∧ Fr (fun _ => False) w w' := by
  obtain ⟨hi, lo, eV, whi, wlo, hV⟩ := wd_words h0 (by omega : V < 340282366920938463463374607431768211456)
  rw [eV]
  have gV := hV.out
  unfold Wd at whi wlo
  have w1 : IntKind.u64.wrap (hi * 4194304) = hi * 4194304 := wrap_in _ ⟨by omega, by omega⟩
  have e1 : bits .or .u64 (hi * 4194304) (lo / 4398046511104) = R := (join' 22 (lo / 4398046511104) hi (by decide) (by omega) (by omega) (by omega) (by omega)).trans (by omega)
  clear gV hV h0 h1 hR whi wlo eV
  go_enter Try.func39, Try.ntmps39
  go_wp2
  go_ret
  exact ⟨rfl, (Fr.refl _ _).alloc _⟩
end Go.Proofs.Ytcoggpedpclkaaa
