/- Words of 32 bits turned; quarter rounds: contracts. Condition: words. -/
import Derived.Test.YtbafppdmlhogbaaK
import Derived.Deep.Strs
namespace Go.Proofs.Ytbafppdmlhogbaa
set_option linter.unusedSimpArgs false
set_option linter.unusedVariables false
open Go.RowKit

/-- A word of 32 bits. -/
def Wd (x : Int) : Prop := 0 ≤ x ∧ x ≤ 4294967295
/-- Turned left. -/
def tl (n : Nat) (x : Int) : Int := x % 2 ^ (32 - n) * 2 ^ n + x / 2 ^ (32 - n)
theorem tl16 (x : Int) : tl 16 x = x % 65536 * 65536 + x / 65536 := rfl
theorem or16 (x : Int) (h : Wd x) : bits .or .u32 (IntKind.u32.wrap (x * 65536)) (x / 65536) = tl 16 x := by
  unfold Wd at h
  rw [tl16, IntKind.wrap_u32, show x * 65536 % 4294967296 = x % 65536 * 65536 by omega]
  exact bits_join .u32 32 (by decide) (fun n h0 h1 => by rw [IntKind.wrap_u32]; omega) 16 (x % 65536 * 65536) (x / 65536) (by omega) (by omega) (by omega) (by omega) (by omega) (by omega)
theorem turned16 (x : Int) (h : Wd x) (w : World) : Calls Try.prog 63 #[.int .u32 x, .int .u64 16] w fun e w' => e = .returned (.int .u32 (tl 16 x)) ∧ w = w' := by
  have e := or16 x h
  have h0 := h.1
  have h1 := h.2
  go_enter Try.func63, Try.ntmps63
  go_wp2
  go_ret
  exact ⟨by first | (rw [← e]; rfl) | rw [← e], rfl⟩
theorem turn16 (x : Int) (h : Wd x) (w : World) : Calls Try.prog 62 #[.int .u32 x, .int .i64 16] w fun e w' => e = .returned (.int .u32 (tl 16 x)) ∧ Fr (fun _ => False) w w' := by
  have e := or16 x h
  have h0 := h.1
  have h1 := h.2
  go_enter Try.func62, Try.ntmps62
  go_wp2
  go_quiet (fail)
  go_wp2
  go_ret
  exact ⟨by first | (rw [← e]; rfl) | rw [← e], (Fr.refl _ _).drewN _⟩
theorem tl12 (x : Int) : tl 12 x = x % 1048576 * 4096 + x / 1048576 := rfl
theorem or12 (x : Int) (h : Wd x) : bits .or .u32 (IntKind.u32.wrap (x * 4096)) (x / 1048576) = tl 12 x := by
  unfold Wd at h
  rw [tl12, IntKind.wrap_u32, show x * 4096 % 4294967296 = x % 1048576 * 4096 by omega]
  exact bits_join .u32 32 (by decide) (fun n h0 h1 => by rw [IntKind.wrap_u32]; omega) 12 (x % 1048576 * 4096) (x / 1048576) (by omega) (by omega) (by omega) (by omega) (by omega) (by omega)
theorem turned12 (x : Int) (h : Wd x) (w : World) : Calls Try.prog 63 #[.int .u32 x, .int .u64 12] w fun e w' => e = .returned (.int .u32 (tl 12 x)) ∧ w = w' := by
  have e := or12 x h
  have h0 := h.1
  have h1 := h.2
  go_enter Try.func63, Try.ntmps63
  go_wp2
  go_ret
  exact ⟨by first | (rw [← e]; rfl) | rw [← e], rfl⟩
theorem turn12 (x : Int) (h : Wd x) (w : World) : Calls Try.prog 62 #[.int .u32 x, .int .i64 12] w fun e w' => e = .returned (.int .u32 (tl 12 x)) ∧ Fr (fun _ => False) w w' := by
  have e := or12 x h
  have h0 := h.1
  have h1 := h.2
  go_enter Try.func62, Try.ntmps62
  go_wp2
  go_quiet (fail)
  go_wp2
  go_ret
  exact ⟨by first | (rw [← e]; rfl) | rw [← e], (Fr.refl _ _).drewN _⟩
theorem tl8 (x : Int) : tl 8 x = x % 16777216 * 256 + x / 16777216 := rfl
theorem or8 (x : Int) (h : Wd x) : bits .or .u32 (IntKind.u32.wrap (x * 256)) (x / 16777216) = tl 8 x := by
  unfold Wd at h
  rw [tl8, IntKind.wrap_u32, show x * 256 % 4294967296 = x % 16777216 * 256 by omega]
  exact bits_join .u32 32 (by decide) (fun n h0 h1 => by rw [IntKind.wrap_u32]; omega) 8 (x % 16777216 * 256) (x / 16777216) (by omega) (by omega) (by omega) (by omega) (by omega) (by omega)
theorem turned8 (x : Int) (h : Wd x) (w : World) : Calls Try.prog 63 #[.int .u32 x, .int .u64 8] w fun e w' => e = .returned (.int .u32 (tl 8 x)) ∧ w = w' := by
  have e := or8 x h
  have h0 := h.1
  have h1 := h.2
  go_enter Try.func63, Try.ntmps63
  go_wp2
  go_ret
  exact ⟨by first | (rw [← e]; rfl) | rw [← e], rfl⟩
theorem turn8 (x : Int) (h : Wd x) (w : World) : Calls Try.prog 62 #[.int .u32 x, .int .i64 8] w fun e w' => e = .returned (.int .u32 (tl 8 x)) ∧ Fr (fun _ => False) w w' := by
  have e := or8 x h
  have h0 := h.1
  have h1 := h.2
  go_enter Try.func62, Try.ntmps62
  go_wp2
  go_quiet (fail)
  go_wp2
  go_ret
  exact ⟨by first | (rw [← e]; rfl) | rw [← e], (Fr.refl _ _).drewN _⟩
theorem tl7 (x : Int) : tl 7 x = x % 33554432 * 128 + x / 33554432 := rfl
theorem or7 (x : Int) (h : Wd x) : bits .or .u32 (IntKind.u32.wrap (x * 128)) (x / 33554432) = tl 7 x := by
  unfold Wd at h
  rw [tl7, IntKind.wrap_u32, show x * 128 % 4294967296 = x % 33554432 * 128 by omega]
  exact bits_join .u32 32 (by decide) (fun n h0 h1 => by rw [IntKind.wrap_u32]; omega) 7 (x % 33554432 * 128) (x / 33554432) (by omega) (by omega) (by omega) (by omega) (by omega) (by omega)
theorem turned7 (x : Int) (h : Wd x) (w : World) : Calls Try.prog 63 #[.int .u32 x, .int .u64 7] w fun e w' => e = .returned (.int .u32 (tl 7 x)) ∧ w = w' := by
  have e := or7 x h
  have h0 := h.1
  have h1 := h.2
  go_enter Try.func63, Try.ntmps63
  go_wp2
  go_ret
  exact ⟨by first | (rw [← e]; rfl) | rw [← e], rfl⟩
theorem turn7 (x : Int) (h : Wd x) (w : World) : Calls Try.prog 62 #[.int .u32 x, .int .i64 7] w fun e w' => e = .returned (.int .u32 (tl 7 x)) ∧ Fr (fun _ => False) w w' := by
  have e := or7 x h
  have h0 := h.1
  have h1 := h.2
  go_enter Try.func62, Try.ntmps62
  go_wp2
  go_quiet (fail)
  go_wp2
  go_ret
  exact ⟨by first | (rw [← e]; rfl) | rw [← e], (Fr.refl _ _).drewN _⟩
end Go.Proofs.Ytbafppdmlhogbaa

/- Quarter rounds: contracts. Condition: words. -/
namespace Go.Proofs.Ytbafppdmlhogbaa
set_option linter.unusedSimpArgs false
set_option linter.unusedVariables false
open Go.RowKit

def sm (x y : Int) : Int := (x + y) % 4294967296
def xr (x y : Int) : Int := bits .xor .u32 x y
theorem sm_wd (x y : Int) : Wd (sm x y) := by unfold sm Wd; omega
theorem xr_nat (x y : Nat) (hx : x < 4294967296) (hy : y < 4294967296) : xr x y = ((x ^^^ y : Nat) : Int) := u32_xor_nat x y hx hy
theorem xr_wd {x y : Int} (hx : Wd x) (hy : Wd y) : Wd (xr x y) := by
  unfold Wd at hx hy
  obtain ⟨x, rfl⟩ := Int.eq_ofNat_of_zero_le hx.1
  obtain ⟨y, rfl⟩ := Int.eq_ofNat_of_zero_le hy.1
  rw [xr_nat x y (by omega) (by omega)]
  have h : x ^^^ y < 2 ^ 32 := Nat.xor_lt_two_pow (by omega) (by omega)
  unfold Wd
  omega
theorem xr_xr {x y : Int} (hx : Wd x) (hy : Wd y) : xr (xr x y) y = x := by
  unfold Wd at hx hy
  obtain ⟨x, rfl⟩ := Int.eq_ofNat_of_zero_le hx.1
  obtain ⟨y, rfl⟩ := Int.eq_ofNat_of_zero_le hy.1
  have h : x ^^^ y < 2 ^ 32 := Nat.xor_lt_two_pow (by omega) (by omega)
  rw [xr_nat x y (by omega) (by omega), xr_nat _ y (by omega) (by omega), Nat.xor_assoc, Nat.xor_self, Nat.xor_zero]
theorem tl_wd (n : Nat) (hn : n = 16 ∨ n = 12 ∨ n = 8 ∨ n = 7) {x : Int} (h : Wd x) : Wd (tl n x) := by
  unfold Wd at h
  rcases hn with rfl | rfl | rfl | rfl
  · rw [tl16]; constructor <;> omega
  · rw [tl12]; constructor <;> omega
  · rw [tl8]; constructor <;> omega
  · rw [tl7]; constructor <;> omega
/-- A quarter round. -/
structure Qr (a b c d a2 b2 c2 d2 : Int) : Prop where
  step : ∃ a1 b1 c1 d1, a1 = sm a b ∧ d1 = tl 16 (xr d a1) ∧ c1 = sm c d1 ∧ b1 = tl 12 (xr b c1) ∧ a2 = sm a1 b1 ∧ d2 = tl 8 (xr d1 a2) ∧ c2 = sm c1 d2 ∧ b2 = tl 7 (xr b1 c2)
  wd : Wd a2 ∧ Wd b2 ∧ Wd c2 ∧ Wd d2
theorem qr_ex {a b c d : Int} (_ : Wd a) (hb : Wd b) (_ : Wd c) (hd : Wd d) : ∃ a2 b2 c2 d2, Qr a b c d a2 b2 c2 d2 := by
  have a1 := sm_wd a b
  have d1 := tl_wd 16 (by simp) (xr_wd hd a1)
  have c1 := sm_wd c (tl 16 (xr d (sm a b)))
  have b1 := tl_wd 12 (by simp) (xr_wd hb c1)
  have a2 := sm_wd (sm a b) (tl 12 (xr b (sm c (tl 16 (xr d (sm a b))))))
  have d2 := tl_wd 8 (by simp) (xr_wd d1 a2)
  have c2 := sm_wd (sm c (tl 16 (xr d (sm a b)))) (tl 8 (xr (tl 16 (xr d (sm a b))) (sm (sm a b) (tl 12 (xr b (sm c (tl 16 (xr d (sm a b)))))))))
  have b2 := tl_wd 7 (by simp) (xr_wd b1 c2)
  exact ⟨_, _, _, _, ⟨_, _, _, _, rfl, rfl, rfl, rfl, rfl, rfl, rfl, rfl⟩, a2, b2, c2, d2⟩
theorem Qr.fn {a b c d a2 b2 c2 d2 a3 b3 c3 d3 : Int} (h : Qr a b c d a2 b2 c2 d2) (k : Qr a b c d a3 b3 c3 d3) : a2 = a3 ∧ b2 = b3 ∧ c2 = c3 ∧ d2 = d3 := by
  obtain ⟨_, _, _, _, rfl, rfl, rfl, rfl, rfl, rfl, rfl, rfl⟩ := h.step
  obtain ⟨_, _, _, _, rfl, rfl, rfl, rfl, rfl, rfl, rfl, rfl⟩ := k.step
  exact ⟨rfl, rfl, rfl, rfl⟩
theorem wrap32 (x : Int) : IntKind.u32.wrap x = x % 4294967296 := IntKind.wrap_u32 x
def tz (n x : Int) : Int := tl n.toNat x
theorem turned_any (x n : Int) (hn : n = 16 ∨ n = 12 ∨ n = 8 ∨ n = 7) (h : Wd x) (w : World) : Calls Try.prog 63 #[.int .u32 x, .int .u64 n] w fun e w' => e = .returned (.int .u32 (tz n x)) ∧ w = w' := by
  rcases hn with rfl | rfl | rfl | rfl
  · exact turned16 x h w
  · exact turned12 x h w
  · exact turned8 x h w
  · exact turned7 x h w
theorem turn_any (x n : Int) (hn : n = 16 ∨ n = 12 ∨ n = 8 ∨ n = 7) (h : Wd x) (w : World) : Calls Try.prog 62 #[.int .u32 x, .int .i64 n] w fun e w' => e = .returned (.int .u32 (tz n x)) ∧ Fr (fun _ => False) w w' := by
  rcases hn with rfl | rfl | rfl | rfl
  · exact turn16 x h w
  · exact turn12 x h w
  · exact turn8 x h w
  · exact turn7 x h w

set_option maxHeartbeats 2000000 in
theorem quarter_is (a b c d a2 b2 c2 d2 : Int) (w : World) (ha : Wd a) (hb : Wd b) (hc : Wd c) (hd : Wd d) (hq : Qr a b c d a2 b2 c2 d2) :
    Calls Try.prog 60 #[.int .u32 a, .int .u32 b, .int .u32 c, .int .u32 d] w fun e w' => e = .returned (.tuple #[.int .u32 a2, .int .u32 b2, .int .u32 c2, .int .u32 d2]) ∧ w = w' := by
  obtain ⟨a1, b1, c1, d1, ha1, hd1, hc1, hb1, ha2, hd2, hc2, hb2⟩ := hq.step
  obtain ⟨wa2, wb2, wc2, wd2⟩ := hq.wd
  obtain ⟨x1, hx1⟩ : ∃ x, x = xr d a1 := ⟨_, rfl⟩
  obtain ⟨x2, hx2⟩ : ∃ x, x = xr b c1 := ⟨_, rfl⟩
  obtain ⟨x3, hx3⟩ : ∃ x, x = xr d1 a2 := ⟨_, rfl⟩
  obtain ⟨x4, hx4⟩ : ∃ x, x = xr b1 c2 := ⟨_, rfl⟩
  have w1 : Wd a1 := by rw [ha1]; exact sm_wd _ _
  have y1 : Wd x1 := by rw [hx1]; exact xr_wd hd w1
  have w2 : Wd d1 := by rw [hd1, ← hx1]; exact tl_wd 16 (by simp) y1
  have w3 : Wd c1 := by rw [hc1]; exact sm_wd _ _
  have y2 : Wd x2 := by rw [hx2]; exact xr_wd hb w3
  have w4 : Wd b1 := by rw [hb1, ← hx2]; exact tl_wd 12 (by simp) y2
  have y3 : Wd x3 := by rw [hx3]; exact xr_wd w2 wa2
  have y4 : Wd x4 := by rw [hx4]; exact xr_wd w4 wc2
  rw [← hx1] at hd1
  rw [← hx2] at hb1
  rw [← hx3] at hd2
  rw [← hx4] at hb2
  have e1 : bits .xor .u32 d a1 = x1 := hx1.symm
  have e2 : bits .xor .u32 b c1 = x2 := hx2.symm
  have e3 : bits .xor .u32 d1 a2 = x3 := hx3.symm
  have e4 : bits .xor .u32 b1 c2 = x4 := hx4.symm
  have s1 : IntKind.u32.wrap (a + b) = a1 := by rw [wrap32, ha1]; rfl
  have s2 : IntKind.u32.wrap (c + d1) = c1 := by rw [wrap32, hc1]; rfl
  have s3 : IntKind.u32.wrap (a1 + b1) = a2 := by rw [wrap32, ha2]; rfl
  have s4 : IntKind.u32.wrap (c1 + d2) = c2 := by rw [wrap32, hc2]; rfl
  have t16 : tz 16 x1 = d1 := hd1.symm
  have t12 : tz 12 x2 = b1 := hb1.symm
  have t8 : tz 8 x3 = d2 := hd2.symm
  have t7 : tz 7 x4 = b2 := hb2.symm
  have Y1 := Lib.hid y1
  have Y2 := Lib.hid y2
  have Y3 := Lib.hid y3
  have Y4 := Lib.hid y4
  clear ha1 hd1 hc1 hb1 ha2 hd2 hc2 hb2 hx1 hx2 hx3 hx4 w1 w2 w3 w4 y1 y2 y3 y4 ha hb hc hd wa2 wb2 wc2 wd2 hq
  go_enter Try.func60, Try.ntmps60
  go_wp2_with (go_at_call 63; refine (turned_any _ _ (by simp) (by first | exact Y1.out | exact Y2.out | exact Y3.out | exact Y4.out) _).mono ?_; rintro e w' ⟨rfl, rfl⟩)
  refine bodyPost_ret (v := .tuple #[.int .u32 a2, .int .u32 b2, .int .u32 c2, .int .u32 d2]) (by simp [results, Try.results60, go_sem]) rfl ?_
  exact ⟨rfl, rfl⟩

theorem size4 : (Try.prog.info? 89).map (·.size) = some 4 := by kernel_rfl
theorem zero4 : ∀ w : World, (zeroValue 89).run Try.prog w = .ok (.agg (vs .u32 [0, 0, 0, 0])) w := fun _ => by kernel_rfl
set_option maxHeartbeats 4000000 in
theorem rquarter_is (a b c d a2 b2 c2 d2 : Int) (w : World) (ha : Wd a) (hb : Wd b) (hc : Wd c) (hd : Wd d) (hq : Qr a b c d a2 b2 c2 d2) :
    Calls Try.prog 55 #[.agg (vs .u32 [a, b, c, d])] w fun e w' => e = .returned (.agg (vs .u32 [a2, b2, c2, d2])) ∧ Fr (fun _ => False) w w' := by
  obtain ⟨a1, b1, c1, d1, ha1, hd1, hc1, hb1, ha2, hd2, hc2, hb2⟩ := hq.step
  obtain ⟨wa2, wb2, wc2, wd2⟩ := hq.wd
  obtain ⟨x1, hx1⟩ : ∃ x, x = xr d a1 := ⟨_, rfl⟩
  obtain ⟨x2, hx2⟩ : ∃ x, x = xr b c1 := ⟨_, rfl⟩
  obtain ⟨x3, hx3⟩ : ∃ x, x = xr d1 a2 := ⟨_, rfl⟩
  obtain ⟨x4, hx4⟩ : ∃ x, x = xr b1 c2 := ⟨_, rfl⟩
  have w1 : Wd a1 := by rw [ha1]; exact sm_wd _ _
  have y1 : Wd x1 := by rw [hx1]; exact xr_wd hd w1
  have w2 : Wd d1 := by rw [hd1, ← hx1]; exact tl_wd 16 (by simp) y1
  have w3 : Wd c1 := by rw [hc1]; exact sm_wd _ _
  have y2 : Wd x2 := by rw [hx2]; exact xr_wd hb w3
  have w4 : Wd b1 := by rw [hb1, ← hx2]; exact tl_wd 12 (by simp) y2
  have y3 : Wd x3 := by rw [hx3]; exact xr_wd w2 wa2
  have y4 : Wd x4 := by rw [hx4]; exact xr_wd w4 wc2
  rw [← hx1] at hd1
  rw [← hx2] at hb1
  rw [← hx3] at hd2
  rw [← hx4] at hb2
  have e1 : bits .xor .u32 d a1 = x1 := hx1.symm
  have e2 : bits .xor .u32 b c1 = x2 := hx2.symm
  have e3 : bits .xor .u32 d1 a2 = x3 := hx3.symm
  have e4 : bits .xor .u32 b1 c2 = x4 := hx4.symm
  have s1 : IntKind.u32.wrap (a + b) = a1 := by rw [wrap32, ha1]; rfl
  have s2 : IntKind.u32.wrap (c + d1) = c1 := by rw [wrap32, hc1]; rfl
  have s3 : IntKind.u32.wrap (a1 + b1) = a2 := by rw [wrap32, ha2]; rfl
  have s4 : IntKind.u32.wrap (c1 + d2) = c2 := by rw [wrap32, hc2]; rfl
  have t16 : tz 16 x1 = d1 := hd1.symm
  have t12 : tz 12 x2 = b1 := hb1.symm
  have t8 : tz 8 x3 = d2 := hd2.symm
  have t7 : tz 7 x4 = b2 := hb2.symm
  have Y1 := Lib.hid y1
  have Y2 := Lib.hid y2
  have Y3 := Lib.hid y3
  have Y4 := Lib.hid y4
  clear ha1 hd1 hc1 hb1 ha2 hd2 hc2 hb2 hx1 hx2 hx3 hx4 w1 w2 w3 w4 y1 y2 y3 y4 ha hb hc hd wa2 wb2 wc2 wd2 hq
  simp only [vs, List.map_cons, List.map_nil]
  go_enter Try.func55, Try.ntmps55
  go_upto_region 1 with (fail)
  generalize hW : (w.alloc (.cells #[.int .u32 a, .int .u32 b, .int .u32 c, .int .u32 d] 89)).alloc (.cells #[.int .u32 0, .int .u32 0, .int .u32 0, .int .u32 0] 89) = W0
  have HW := Lib.hid (calm2 hW)
  have k0 := cell_of_row W0 w.heap.size 0 _ _ _ HW.out.1
  have k1 := cell_of_row W0 w.heap.size 1 _ _ _ HW.out.1
  have k2 := cell_of_row W0 w.heap.size 2 _ _ _ HW.out.1
  have k3 := cell_of_row W0 w.heap.size 3 _ _ _ HW.out.1
  have hW1 : w.heap.size + 1 < W0.heap.size := heap_lt HW.out.2.1
  have X1 : Hid (W0.heap[w.heap.size + 1]? = _) := Lib.hid HW.out.2.1
  have F0 : Hid (Fr (fun _ => False) w W0) := Lib.hid HW.out.2.2
  clear hW HW
  go_quiet (fail)
  have X1 : Hid ((W0.drewN nq).heap[w.heap.size + 1]? = _) := X1
  have F0 : Hid (Fr (fun _ => False) w (W0.drewN nq)) := F0.out.drewN nq
  generalize W0.drewN nq = W1 at *
  go_wp2_with (first
    | (go_at_call 62; refine (turn_any _ _ (by simp) (by first | exact Y1.out | exact Y2.out | exact Y3.out | exact Y4.out) _).mono ?_; rintro e w' ⟨rfl, hf⟩; replace X1 := Lib.hid ((hf.block _ (heap_lt X1.out) (fun x => x)).trans X1.out); replace F0 := Lib.hid (F0.out.trans hf); clear hf)
    | refine wpList_store_row rfl 89 (.tmp 2) (.tmp 47) rfl (w.heap.size + 1) (vs .u32 [a2, b2, c2, d2]) rfl rfl 89 _ X1.out (by rw [size4]; rfl) rfl (vs_all _ _) ?_)
  refine bodyPost_ret (results_cell_row Try.results55 _ _ _ 89 _ (0, 0) _ rfl (setRow_heap _ _ _ _ _ _ X1.out) Try.underlying89 rfl (by rw [size4]; rfl)) rfl ⟨rfl, F0.out.setRow _ (.inr (by omega))⟩
end Go.Proofs.Ytbafppdmlhogbaa

/- A quarter round taken back; the law's helper works: contracts. Condition: words. -/
namespace Go.Proofs.Ytbafppdmlhogbaa
set_option linter.unusedSimpArgs false
set_option linter.unusedVariables false
open Go.RowKit

def rt (n : Nat) (x : Int) : Int := x % 2 ^ n * 2 ^ (32 - n) + x / 2 ^ n
def rz (n x : Int) : Int := rt n.toNat x
theorem rt16 (x : Int) : rt 16 x = x % 65536 * 65536 + x / 65536 := rfl
theorem rt_tl16 (x : Int) (h : Wd x) : rz 16 (tz 16 x) = x := by
  show rt 16 (tl 16 x) = x
  unfold Wd at h
  rw [rt16, tl16]
  omega
theorem ro16 (x : Int) (h : Wd x) : bits .or .u32 (x / 65536) (IntKind.u32.wrap (x * 65536)) = rt 16 x := by
  unfold Wd at h
  rw [rt16, IntKind.wrap_u32, show x * 65536 % 4294967296 = x % 65536 * 65536 by omega]
  have e := bits_join .u32 32 (by decide) (fun n h0 h1 => by rw [IntKind.wrap_u32]; omega) 16 (x % 65536 * 65536) (x / 65536) (by omega) (by omega) (by omega) (by omega) (by omega) (by omega)
  rw [← e]
  obtain ⟨p, hp⟩ := Int.eq_ofNat_of_zero_le (show 0 ≤ x / 65536 by omega)
  obtain ⟨q, hq⟩ := Int.eq_ofNat_of_zero_le (show 0 ≤ x % 65536 * 65536 by omega)
  rw [hp, hq, u32_or_nat p q (by omega) (by omega), u32_or_nat q p (by omega) (by omega), Nat.or_comm]
theorem rt12 (x : Int) : rt 12 x = x % 4096 * 1048576 + x / 4096 := rfl
theorem rt_tl12 (x : Int) (h : Wd x) : rz 12 (tz 12 x) = x := by
  show rt 12 (tl 12 x) = x
  unfold Wd at h
  rw [rt12, tl12]
  omega
theorem ro12 (x : Int) (h : Wd x) : bits .or .u32 (x / 4096) (IntKind.u32.wrap (x * 1048576)) = rt 12 x := by
  unfold Wd at h
  rw [rt12, IntKind.wrap_u32, show x * 1048576 % 4294967296 = x % 4096 * 1048576 by omega]
  have e := bits_join .u32 32 (by decide) (fun n h0 h1 => by rw [IntKind.wrap_u32]; omega) 20 (x % 4096 * 1048576) (x / 4096) (by omega) (by omega) (by omega) (by omega) (by omega) (by omega)
  rw [← e]
  obtain ⟨p, hp⟩ := Int.eq_ofNat_of_zero_le (show 0 ≤ x / 4096 by omega)
  obtain ⟨q, hq⟩ := Int.eq_ofNat_of_zero_le (show 0 ≤ x % 4096 * 1048576 by omega)
  rw [hp, hq, u32_or_nat p q (by omega) (by omega), u32_or_nat q p (by omega) (by omega), Nat.or_comm]
theorem rt8 (x : Int) : rt 8 x = x % 256 * 16777216 + x / 256 := rfl
theorem rt_tl8 (x : Int) (h : Wd x) : rz 8 (tz 8 x) = x := by
  show rt 8 (tl 8 x) = x
  unfold Wd at h
  rw [rt8, tl8]
  omega
theorem ro8 (x : Int) (h : Wd x) : bits .or .u32 (x / 256) (IntKind.u32.wrap (x * 16777216)) = rt 8 x := by
  unfold Wd at h
  rw [rt8, IntKind.wrap_u32, show x * 16777216 % 4294967296 = x % 256 * 16777216 by omega]
  have e := bits_join .u32 32 (by decide) (fun n h0 h1 => by rw [IntKind.wrap_u32]; omega) 24 (x % 256 * 16777216) (x / 256) (by omega) (by omega) (by omega) (by omega) (by omega) (by omega)
  rw [← e]
  obtain ⟨p, hp⟩ := Int.eq_ofNat_of_zero_le (show 0 ≤ x / 256 by omega)
  obtain ⟨q, hq⟩ := Int.eq_ofNat_of_zero_le (show 0 ≤ x % 256 * 16777216 by omega)
  rw [hp, hq, u32_or_nat p q (by omega) (by omega), u32_or_nat q p (by omega) (by omega), Nat.or_comm]
theorem rt7 (x : Int) : rt 7 x = x % 128 * 33554432 + x / 128 := rfl
theorem rt_tl7 (x : Int) (h : Wd x) : rz 7 (tz 7 x) = x := by
  show rt 7 (tl 7 x) = x
  unfold Wd at h
  rw [rt7, tl7]
  omega
theorem ro7 (x : Int) (h : Wd x) : bits .or .u32 (x / 128) (IntKind.u32.wrap (x * 33554432)) = rt 7 x := by
  unfold Wd at h
  rw [rt7, IntKind.wrap_u32, show x * 33554432 % 4294967296 = x % 128 * 33554432 by omega]
  have e := bits_join .u32 32 (by decide) (fun n h0 h1 => by rw [IntKind.wrap_u32]; omega) 25 (x % 128 * 33554432) (x / 128) (by omega) (by omega) (by omega) (by omega) (by omega) (by omega)
  rw [← e]
  obtain ⟨p, hp⟩ := Int.eq_ofNat_of_zero_le (show 0 ≤ x / 128 by omega)
  obtain ⟨q, hq⟩ := Int.eq_ofNat_of_zero_le (show 0 ≤ x % 128 * 33554432 by omega)
  rw [hp, hq, u32_or_nat p q (by omega) (by omega), u32_or_nat q p (by omega) (by omega), Nat.or_comm]
theorem sub_sm {x y : Int} (hx : Wd x) : IntKind.u32.wrap (sm x y - y) = x := by
  unfold Wd at hx
  rw [wrap32]
  unfold sm
  omega
theorem sub_sm' {x y : Int} (hy : Wd y) : IntKind.u32.wrap (sm x y - x) = y := by
  unfold Wd at hy
  rw [wrap32]
  unfold sm
  omega

theorem eq23 (l m : List Int) (hl : l.length = 4) (hm : m.length = 4) (w : World) : (Op.equalIn 10000 89 (.agg (vs .u32 l)) (.agg (vs .u32 m))).run Try.prog w = .ok (decide (l = m)) w := by
  obtain ⟨i, hi, _⟩ := info_parts (show (Try.prog.info? 41).map (fun i => (i.zero, i.size, i.bytes)) = some (some (.int .u32 0), 1, 4) by kernel_rfl)
  exact run_equalIn_ints (P := Try.prog) (k := .u32) (k' := .u32) (n := 4) (e := 41) 9998 Try.underlying89 hi Try.underlying41 (by kernel_rfl) (by kernel_rfl) l m hl hm w
end Go.Proofs.Ytbafppdmlhogbaa

/- Arguments that are four words, or a key, a counter and a nonce, opened. Lemmas alone. -/
namespace Go.Proofs.Ytbafppdmlhogbaa
set_option linter.unusedSimpArgs false
set_option linter.unusedVariables false
open Go.ChangeShapes Go.WideShapes Go.ChangeAt Go.RowKit

theorem four {l : List Int} (h : l.length = 4) : ∃ a b c d, l = [a, b, c, d] := by
  match l, h with
  | [a, b, c, d], _ => exact ⟨a, b, c, d, rfl⟩
theorem open_q4 {H : Type} {enc : TypeId × Value → H} {W : World} {base b0 : Nat} {sp : Nat → Bool} {held : Bool} {r : Reach} {v : Value} {d : DataW H} {ps : List MemPlace}
    (hv : Value.okWide Try.prog W r b0 89 v) (h : DataW.Trod enc Try.prog W base sp held 89 v d ps) : ∃ x y z t : Int, v = .agg (vs .u32 [x, y, z, t]) ∧ Wd x ∧ Wd y ∧ Wd z ∧ Wd t := by
  obtain ⟨l, h1, h2, h3⟩ := open_ints_arr Try.underlying89 Try.underlying41 (by kernel_rfl) (by kernel_rfl) hv h
  obtain ⟨x, y, z, t, rfl⟩ := four h2
  exact ⟨x, y, z, t, h1, bounds_u32 (h3 x (by simp)), bounds_u32 (h3 y (by simp)), bounds_u32 (h3 z (by simp)), bounds_u32 (h3 t (by simp))⟩

/-- A key, a counter and a nonce. -/
def bg (k : List Int) (c : Int) (n : List Int) : Array Value := ((k.map (Value.int .u8)) ++ (Value.int .u32 c :: n.map (Value.int .u8))).toArray
theorem trod_ints {H : Type} {enc : TypeId × Value → H} {P : Program} {W : World} {base : Nat} {sp : Nat → Bool} {held : Bool} {t e : TypeId} {n fuel : Nat} {k : IntKind} {cs : List Value} {x : DataW H × List MemPlace}
    (ht : P.underlying t = some (.array n e)) (he : P.underlying e = some (.int k)) (hce : P.cellsOf e = 1) (hl : cs.length = n)
    (h : DataW.trod enc P W base sp held fuel t cs = some x) : ∃ l : List Int, cs = l.map (Value.int k) ∧ l.length = n ∧ ∀ x ∈ l, (Lit.int k x).wf = true := by
  obtain ⟨xs, m, _, _, _, hl', hel⟩ := DataW.trod_array ht h
  simp only [hce, Nat.mul_one] at hel
  have hcell : ∀ i (hi : i < cs.length), ∃ x, cs[i] = .int k x ∧ (Lit.int k x).wf = true := by
    intro i hi
    have h1 := hel i (by omega)
    rw [List.getElem?_eq_getElem (by omega)] at h1
    obtain ⟨x, ex, _, wx⟩ := DataW.trod_int he h1
    rw [List.drop_eq_getElem_cons hi] at ex
    simp only [List.take_succ_cons, List.take_zero, List.cons.injEq, and_true] at ex
    exact ⟨x, ex, wx⟩
  refine ⟨cs.map intOf, ?_, by simp; omega, ?_⟩
  · apply List.ext_getElem
    · simp
    · intro i h1 h2
      obtain ⟨x, ex, _⟩ := hcell i h1
      simp [ex, intOf]
  · intro x hx
    simp only [List.mem_map] at hx
    obtain ⟨c, hc, rfl⟩ := hx
    obtain ⟨i, hi, rfl⟩ := List.mem_iff_getElem.1 hc
    obtain ⟨x, ex, wx⟩ := hcell i hi
    rw [ex]
    exact wx
section
variable {w : World} {q : Nat} {k n : List Int} {c : Int}
theorem bg_size (hk : k.length = 32) (hn : n.length = 12) : (bg k c n).size = 45 := by simp [bg, hk, hn]
end
section
variable {C : World → Prop} {a : Act} {o : Oper} {K : Act → Prop}
/-- A part of an array or struct is loaded. -/
theorem quiet_mid (ty : TypeId) (d : TypeDesc) (x : Operand) (ho : o.op = .load ty x) (q i : Nat) (hx : a.eval x = .pointer (some ⟨q, i, none⟩)) (k : IntKind) (l : List Int) (hd : Try.prog.underlying ty = some d) (hr : d.isRow = true) (hl : (Try.prog.info? ty).map (·.size) = some l.length) (hg : ∀ w, C w → w.rangeAt q i (vs k l).toList)
    (hk : K (a.put o.dst (.agg (vs k l)))) : o.quiet Try.prog a C K := by
  refine quiet_run _ (fun w hw => ?_) hk
  unfold execOp
  simp only [ho, hx, Instr.loadAt, Instr.sureAddr, Sem.run_bind, Sem.run_pure, Result.andThen_ok, run_loadVar_mid (P := Try.prog) w q i ty (vs k l).toList _ (hg w hw) hd hr (by rw [hl]; simp [vs])]
theorem quiet_one (ty : TypeId) (k : IntKind) (x : Operand) (ho : o.op = .load ty x) (q i : Nat) (hx : a.eval x = .pointer (some ⟨q, i, none⟩)) (y : Int) (he : Try.prog.underlying ty = some (.int k)) (hg : ∀ w, C w → w.cell? ⟨q, i, none⟩ = some (.int k y))
    (hk : K (a.put o.dst (.int k y))) : o.quiet Try.prog a C K := by
  refine quiet_run _ (fun w hw => ?_) hk
  have hc := hg w hw
  unfold execOp
  simp [ho, hx, Instr.loadAt, Instr.sureAddr, loadVar, isAgg, run_underlying he, hc, Sem.run_bind, Sem.run_pure, Result.andThen_ok]
end
end Go.Proofs.Ytbafppdmlhogbaa
