/- A quarter round taken back; the law's helper works: contracts. Condition: words. -/
import Derived.Test.YtnagnolbomcnjaaQr
namespace Go.Proofs.Ytnagnolbomcnjaa
set_option linter.unusedSimpArgs false
set_option linter.unusedVariables false
open Go.RowKit

def rt (n : Nat) (x : Int) : Int := x % 2 ^ n * 2 ^ (32 - n) + x / 2 ^ n
def rz (n x : Int) : Int := rt n.toNat x
theorem rt16 (x : Int) : rt 16 x = x % 65536 * 65536 + x / 65536 := rfl
theorem rt_tl16 (x : Int) (h : Wd x) : rz 16 (tz 16 x) = x := by
  show rt 16 (tl 16 x) = x
  unfold Wd at h
  rw [rt16, tl16]
  omega
theorem ro16 (x : Int) (h : Wd x) : bits .or .u32 (x / 65536) (IntKind.u32.wrap (x * 65536)) = rt 16 x := by
  unfold Wd at h
  rw [rt16, IntKind.wrap_u32, show x * 65536 % 4294967296 = x % 65536 * 65536 by omega]
  have e := bits_join .u32 32 (by decide) (fun n h0 h1 => by rw [IntKind.wrap_u32]; omega) 16 (x % 65536 * 65536) (x / 65536) (by omega) (by omega) (by omega) (by omega) (by omega) (by omega)
  rw [← e]
  obtain ⟨p, hp⟩ := Int.eq_ofNat_of_zero_le (show 0 ≤ x / 65536 by omega)
  obtain ⟨q, hq⟩ := Int.eq_ofNat_of_zero_le (show 0 ≤ x % 65536 * 65536 by omega)
  rw [hp, hq, u32_or_nat p q (by omega) (by omega), u32_or_nat q p (by omega) (by omega), Nat.or_comm]
theorem right16 (x : Int) (h : Wd x) (w : World) : Calls Try.prog 30 #[.int .u32 x, .int .i64 16] w fun e w' => e = .returned (.int .u32 (rt 16 x)) ∧ Fr (fun _ => False) w w' := by
  have e := ro16 x h
  have h0 := h.1
  have h1 := h.2
  go_enter Try.func30, Try.ntmps30
  go_wp2
  go_quiet (fail)
  go_wp2
  go_ret
  exact ⟨by first | (rw [← e]; rfl) | rw [← e], (Fr.refl _ _).drewN _⟩
theorem rt12 (x : Int) : rt 12 x = x % 4096 * 1048576 + x / 4096 := rfl
theorem rt_tl12 (x : Int) (h : Wd x) : rz 12 (tz 12 x) = x := by
  show rt 12 (tl 12 x) = x
  unfold Wd at h
  rw [rt12, tl12]
  omega
theorem ro12 (x : Int) (h : Wd x) : bits .or .u32 (x / 4096) (IntKind.u32.wrap (x * 1048576)) = rt 12 x := by
  unfold Wd at h
  rw [rt12, IntKind.wrap_u32, show x * 1048576 % 4294967296 = x % 4096 * 1048576 by omega]
  have e := bits_join .u32 32 (by decide) (fun n h0 h1 => by rw [IntKind.wrap_u32]; omega) 20 (x % 4096 * 1048576) (x / 4096) (by omega) (by omega) (by omega) (by omega) (by omega) (by omega)
  rw [← e]
  obtain ⟨p, hp⟩ := Int.eq_ofNat_of_zero_le (show 0 ≤ x / 4096 by omega)
  obtain ⟨q, hq⟩ := Int.eq_ofNat_of_zero_le (show 0 ≤ x % 4096 * 1048576 by omega)
  rw [hp, hq, u32_or_nat p q (by omega) (by omega), u32_or_nat q p (by omega) (by omega), Nat.or_comm]
theorem right12 (x : Int) (h : Wd x) (w : World) : Calls Try.prog 30 #[.int .u32 x, .int .i64 12] w fun e w' => e = .returned (.int .u32 (rt 12 x)) ∧ Fr (fun _ => False) w w' := by
  have e := ro12 x h
  have h0 := h.1
  have h1 := h.2
  go_enter Try.func30, Try.ntmps30
  go_wp2
  go_quiet (fail)
  go_wp2
  go_ret
  exact ⟨by first | (rw [← e]; rfl) | rw [← e], (Fr.refl _ _).drewN _⟩
theorem rt8 (x : Int) : rt 8 x = x % 256 * 16777216 + x / 256 := rfl
theorem rt_tl8 (x : Int) (h : Wd x) : rz 8 (tz 8 x) = x := by
  show rt 8 (tl 8 x) = x
  unfold Wd at h
  rw [rt8, tl8]
  omega
theorem ro8 (x : Int) (h : Wd x) : bits .or .u32 (x / 256) (IntKind.u32.wrap (x * 16777216)) = rt 8 x := by
  unfold Wd at h
  rw [rt8, IntKind.wrap_u32, show x * 16777216 % 4294967296 = x % 256 * 16777216 by omega]
  have e := bits_join .u32 32 (by decide) (fun n h0 h1 => by rw [IntKind.wrap_u32]; omega) 24 (x % 256 * 16777216) (x / 256) (by omega) (by omega) (by omega) (by omega) (by omega) (by omega)
  rw [← e]
  obtain ⟨p, hp⟩ := Int.eq_ofNat_of_zero_le (show 0 ≤ x / 256 by omega)
  obtain ⟨q, hq⟩ := Int.eq_ofNat_of_zero_le (show 0 ≤ x % 256 * 16777216 by omega)
  rw [hp, hq, u32_or_nat p q (by omega) (by omega), u32_or_nat q p (by omega) (by omega), Nat.or_comm]
theorem right8 (x : Int) (h : Wd x) (w : World) : Calls Try.prog 30 #[.int .u32 x, .int .i64 8] w fun e w' => e = .returned (.int .u32 (rt 8 x)) ∧ Fr (fun _ => False) w w' := by
  have e := ro8 x h
  have h0 := h.1
  have h1 := h.2
  go_enter Try.func30, Try.ntmps30
  go_wp2
  go_quiet (fail)
  go_wp2
  go_ret
  exact ⟨by first | (rw [← e]; rfl) | rw [← e], (Fr.refl _ _).drewN _⟩
theorem rt7 (x : Int) : rt 7 x = x % 128 * 33554432 + x / 128 := rfl
theorem rt_tl7 (x : Int) (h : Wd x) : rz 7 (tz 7 x) = x := by
  show rt 7 (tl 7 x) = x
  unfold Wd at h
  rw [rt7, tl7]
  omega
theorem ro7 (x : Int) (h : Wd x) : bits .or .u32 (x / 128) (IntKind.u32.wrap (x * 33554432)) = rt 7 x := by
  unfold Wd at h
  rw [rt7, IntKind.wrap_u32, show x * 33554432 % 4294967296 = x % 128 * 33554432 by omega]
  have e := bits_join .u32 32 (by decide) (fun n h0 h1 => by rw [IntKind.wrap_u32]; omega) 25 (x % 128 * 33554432) (x / 128) (by omega) (by omega) (by omega) (by omega) (by omega) (by omega)
  rw [← e]
  obtain ⟨p, hp⟩ := Int.eq_ofNat_of_zero_le (show 0 ≤ x / 128 by omega)
  obtain ⟨q, hq⟩ := Int.eq_ofNat_of_zero_le (show 0 ≤ x % 128 * 33554432 by omega)
  rw [hp, hq, u32_or_nat p q (by omega) (by omega), u32_or_nat q p (by omega) (by omega), Nat.or_comm]
theorem right7 (x : Int) (h : Wd x) (w : World) : Calls Try.prog 30 #[.int .u32 x, .int .i64 7] w fun e w' => e = .returned (.int .u32 (rt 7 x)) ∧ Fr (fun _ => False) w w' := by
  have e := ro7 x h
  have h0 := h.1
  have h1 := h.2
  go_enter Try.func30, Try.ntmps30
  go_wp2
  go_quiet (fail)
  go_wp2
  go_ret
  exact ⟨by first | (rw [← e]; rfl) | rw [← e], (Fr.refl _ _).drewN _⟩
theorem right_any (x n : Int) (hn : n = 16 ∨ n = 12 ∨ n = 8 ∨ n = 7) (h : Wd x) (w : World) : Calls Try.prog 30 #[.int .u32 x, .int .i64 n] w fun e w' => e = .returned (.int .u32 (rz n x)) ∧ Fr (fun _ => False) w w' := by
  rcases hn with rfl | rfl | rfl | rfl
  · exact right16 x h w
  · exact right12 x h w
  · exact right8 x h w
  · exact right7 x h w
theorem sub_sm {x y : Int} (hx : Wd x) : IntKind.u32.wrap (sm x y - y) = x := by
  unfold Wd at hx
  rw [wrap32]
  unfold sm
  omega
theorem sub_sm' {x y : Int} (hy : Wd y) : IntKind.u32.wrap (sm x y - x) = y := by
  unfold Wd at hy
  rw [wrap32]
  unfold sm
  omega

set_option maxHeartbeats 4000000 in
theorem back_is (a b c d a2 b2 c2 d2 : Int) (w : World) (ha : Wd a) (hb : Wd b) (hc : Wd c) (hd : Wd d) (hq : Qr a b c d a2 b2 c2 d2) :
    Calls Try.prog 22 #[.agg (vs .u32 [a2, b2, c2, d2])] w fun e w' => e = .returned (.agg (vs .u32 [a, b, c, d])) ∧ Fr (fun _ => False) w w' := by
  obtain ⟨a1, b1, c1, d1, ha1, hd1, hc1, hb1, ha2, hd2, hc2, hb2⟩ := hq.step
  obtain ⟨wa2, wb2, wc2, wd2⟩ := hq.wd
  obtain ⟨x1, hx1⟩ : ∃ x, x = xr d a1 := ⟨_, rfl⟩
  obtain ⟨x2, hx2⟩ : ∃ x, x = xr b c1 := ⟨_, rfl⟩
  obtain ⟨x3, hx3⟩ : ∃ x, x = xr d1 a2 := ⟨_, rfl⟩
  obtain ⟨x4, hx4⟩ : ∃ x, x = xr b1 c2 := ⟨_, rfl⟩
  have w1 : Wd a1 := by rw [ha1]; exact sm_wd _ _
  have y1 : Wd x1 := by rw [hx1]; exact xr_wd hd w1
  have w2 : Wd d1 := by rw [hd1, ← hx1]; exact tl_wd 16 (by simp) y1
  have w3 : Wd c1 := by rw [hc1]; exact sm_wd _ _
  have y2 : Wd x2 := by rw [hx2]; exact xr_wd hb w3
  have w4 : Wd b1 := by rw [hb1, ← hx2]; exact tl_wd 12 (by simp) y2
  have y3 : Wd x3 := by rw [hx3]; exact xr_wd w2 wa2
  have y4 : Wd x4 := by rw [hx4]; exact xr_wd w4 wc2
  have t7 : rz 7 b2 = x4 := by rw [hb2, ← hx4]; exact rt_tl7 x4 y4
  have t8 : rz 8 d2 = x3 := by rw [hd2, ← hx3]; exact rt_tl8 x3 y3
  have t12 : rz 12 b1 = x2 := by rw [hb1, ← hx2]; exact rt_tl12 x2 y2
  have t16 : rz 16 d1 = x1 := by rw [hd1, ← hx1]; exact rt_tl16 x1 y1
  have e1 : bits .xor .u32 x1 a1 = d := by rw [hx1]; exact xr_xr hd w1
  have e2 : bits .xor .u32 x2 c1 = b := by rw [hx2]; exact xr_xr hb w3
  have e3 : bits .xor .u32 x3 a2 = d1 := by rw [hx3]; exact xr_xr w2 wa2
  have e4 : bits .xor .u32 x4 c2 = b1 := by rw [hx4]; exact xr_xr w4 wc2
  have s1 : IntKind.u32.wrap (a1 - b) = a := by rw [ha1]; exact sub_sm ha
  have s2 : IntKind.u32.wrap (c1 - d1) = c := by rw [hc1]; exact sub_sm hc
  have s3 : IntKind.u32.wrap (a2 - b1) = a1 := by rw [ha2]; exact sub_sm w1
  have s4 : IntKind.u32.wrap (c2 - d2) = c1 := by rw [hc2]; exact sub_sm w3
  have Y := Lib.hid (And.intro w2 (And.intro w4 (And.intro wb2 wd2)))
  clear ha1 hd1 hc1 hb1 ha2 hd2 hc2 hb2 hx1 hx2 hx3 hx4 w1 w2 w3 w4 y1 y2 y3 y4 ha hb hc hd wa2 wb2 wc2 wd2 hq
  simp only [vs, List.map_cons, List.map_nil]
  go_enter Try.func22, Try.ntmps22
  go_upto_region 1 with (fail)
  generalize hW : (w.alloc (.cells #[.int .u32 a2, .int .u32 b2, .int .u32 c2, .int .u32 d2] 23)).alloc (.cells #[.int .u32 0, .int .u32 0, .int .u32 0, .int .u32 0] 23) = W0
  have HW := Lib.hid (calm2 hW)
  have k0 := cell_of_row W0 w.heap.size 0 _ _ _ HW.out.1
  have k1 := cell_of_row W0 w.heap.size 1 _ _ _ HW.out.1
  have k2 := cell_of_row W0 w.heap.size 2 _ _ _ HW.out.1
  have k3 := cell_of_row W0 w.heap.size 3 _ _ _ HW.out.1
  have hW1 : w.heap.size + 1 < W0.heap.size := heap_lt HW.out.2.1
  have X1 : Hid (W0.heap[w.heap.size + 1]? = _) := Lib.hid HW.out.2.1
  have F0 : Hid (Fr (fun _ => False) w W0) := Lib.hid HW.out.2.2
  clear hW HW
  go_quiet (fail)
  have X1 : Hid ((W0.drewN nq).heap[w.heap.size + 1]? = _) := X1
  have F0 : Hid (Fr (fun _ => False) w (W0.drewN nq)) := F0.out.drewN nq
  generalize W0.drewN nq = W1 at *
  go_wp2_with (first
    | (go_at_call 30; refine (right_any _ _ (by simp) (by first | exact Y.out.1 | exact Y.out.2.1 | exact Y.out.2.2.1 | exact Y.out.2.2.2) _).mono ?_; rintro e w' ⟨rfl, hf⟩; replace X1 := Lib.hid ((hf.block _ (heap_lt X1.out) (fun x => x)).trans X1.out); replace F0 := Lib.hid (F0.out.trans hf); clear hf)
    | refine wpList_store_row rfl 23 (.tmp 2) (.tmp 47) rfl (w.heap.size + 1) (vs .u32 [a, b, c, d]) rfl rfl 23 _ X1.out (by rw [size4]; rfl) rfl (vs_all _ _) ?_)
  refine bodyPost_ret (results_cell_row Try.results22 _ _ _ 23 _ (0, 0) _ rfl (setRow_heap _ _ _ _ _ _ X1.out) Try.underlying23 rfl (by rw [size4]; rfl)) rfl ⟨rfl, F0.out.setRow _ (.inr (by omega))⟩

theorem eq23 (l m : List Int) (hl : l.length = 4) (hm : m.length = 4) (w : World) : (Op.equalIn 10000 23 (.agg (vs .u32 l)) (.agg (vs .u32 m))).run Try.prog w = .ok (decide (l = m)) w := by
  obtain ⟨i, hi, _⟩ := info_parts (show (Try.prog.info? 22).map (fun i => (i.zero, i.size, i.bytes)) = some (some (.int .u32 0), 1, 4) by kernel_rfl)
  exact run_equalIn_ints (P := Try.prog) (k := .u32) (k' := .u32) (n := 4) (e := 22) 9998 Try.underlying23 hi Try.underlying22 (by kernel_rfl) (by kernel_rfl) l m hl hm w
set_option maxRecDepth 100000 in
theorem works_is (w : World) : Calls Try.prog 15 #[] w fun e w' => e = .returned (.bool true) ∧ Fr (fun _ => False) w w' := by
  have hq : Qr 286331153 16909060 2609737539 19088743 3928658676 3407673550 1166100270 1484899515 :=
    ⟨⟨_, _, _, _, rfl, rfl, rfl, rfl, by decide +kernel, by decide +kernel, by decide +kernel, by decide +kernel⟩, ⟨by decide, by decide⟩, ⟨by decide, by decide⟩, ⟨by decide, by decide⟩, ⟨by decide, by decide⟩⟩
  have C := fun W => quarterA_is _ _ _ _ _ _ _ _ W ⟨by decide, by decide⟩ ⟨by decide, by decide⟩ ⟨by decide, by decide⟩ ⟨by decide, by decide⟩ hq
  obtain ⟨K, hK⟩ : ∃ K, K = vs .u32 [3928658676, 3407673550, 1166100270, 1484899515] := ⟨_, rfl⟩
  rw [← hK] at C
  have hE : ∀ W, (Op.equalIn 10000 23 (.agg K) (.agg #[.int .u32 3928658676, .int .u32 3407673550, .int .u32 1166100270, .int .u32 1484899515])).run Try.prog W = .ok true W := fun W => by
    rw [hK]
    exact (eq23 [3928658676, 3407673550, 1166100270, 1484899515] [3928658676, 3407673550, 1166100270, 1484899515] rfl rfl W).trans (by rw [decide_eq_true rfl])
  clear hq hK
  go_enter Try.func15, Try.ntmps15
  go_wp2_with (go_at_call 13; refine (C _).mono ?_; rintro e w' ⟨rfl, hf⟩; have F := Lib.hid hf; clear hf)
  go_ret
  exact ⟨rfl, F.out⟩
end Go.Proofs.Ytnagnolbomcnjaa
