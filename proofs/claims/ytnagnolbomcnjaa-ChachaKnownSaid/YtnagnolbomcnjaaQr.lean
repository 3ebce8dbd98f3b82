/- Quarter rounds: contracts. Condition: words. -/
import Derived.Test.YtnagnolbomcnjaaQ
namespace Go.Proofs.Ytnagnolbomcnjaa
set_option linter.unusedSimpArgs false
set_option linter.unusedVariables false
open Go.RowKit

def sm (x y : Int) : Int := (x + y) % 4294967296
def xr (x y : Int) : Int := bits .xor .u32 x y
theorem sm_wd (x y : Int) : Wd (sm x y) := by unfold sm Wd; omega
theorem xr_nat (x y : Nat) (hx : x < 4294967296) (hy : y < 4294967296) : xr x y = ((x ^^^ y : Nat) : Int) := u32_xor_nat x y hx hy
theorem xr_wd {x y : Int} (hx : Wd x) (hy : Wd y) : Wd (xr x y) := by
  unfold Wd at hx hy
  obtain ⟨x, rfl⟩ := Int.eq_ofNat_of_zero_le hx.1
  obtain ⟨y, rfl⟩ := Int.eq_ofNat_of_zero_le hy.1
  rw [xr_nat x y (by omega) (by omega)]
  have h : x ^^^ y < 2 ^ 32 := Nat.xor_lt_two_pow (by omega) (by omega)
  unfold Wd
  omega
theorem xr_xr {x y : Int} (hx : Wd x) (hy : Wd y) : xr (xr x y) y = x := by
  unfold Wd at hx hy
  obtain ⟨x, rfl⟩ := Int.eq_ofNat_of_zero_le hx.1
  obtain ⟨y, rfl⟩ := Int.eq_ofNat_of_zero_le hy.1
  have h : x ^^^ y < 2 ^ 32 := Nat.xor_lt_two_pow (by omega) (by omega)
  rw [xr_nat x y (by omega) (by omega), xr_nat _ y (by omega) (by omega), Nat.xor_assoc, Nat.xor_self, Nat.xor_zero]
theorem tl_wd (n : Nat) (hn : n = 16 ∨ n = 12 ∨ n = 8 ∨ n = 7) {x : Int} (h : Wd x) : Wd (tl n x) := by
  unfold Wd at h
  rcases hn with rfl | rfl | rfl | rfl
  · rw [tl16]; constructor <;> omega
  · rw [tl12]; constructor <;> omega
  · rw [tl8]; constructor <;> omega
  · rw [tl7]; constructor <;> omega
/-- A quarter round. -/
structure Qr (a b c d a2 b2 c2 d2 : Int) : Prop where
  step : ∃ a1 b1 c1 d1, a1 = sm a b ∧ d1 = tl 16 (xr d a1) ∧ c1 = sm c d1 ∧ b1 = tl 12 (xr b c1) ∧ a2 = sm a1 b1 ∧ d2 = tl 8 (xr d1 a2) ∧ c2 = sm c1 d2 ∧ b2 = tl 7 (xr b1 c2)
  wd : Wd a2 ∧ Wd b2 ∧ Wd c2 ∧ Wd d2
theorem qr_ex {a b c d : Int} (_ : Wd a) (hb : Wd b) (_ : Wd c) (hd : Wd d) : ∃ a2 b2 c2 d2, Qr a b c d a2 b2 c2 d2 := by
  have a1 := sm_wd a b
  have d1 := tl_wd 16 (by simp) (xr_wd hd a1)
  have c1 := sm_wd c (tl 16 (xr d (sm a b)))
  have b1 := tl_wd 12 (by simp) (xr_wd hb c1)
  have a2 := sm_wd (sm a b) (tl 12 (xr b (sm c (tl 16 (xr d (sm a b))))))
  have d2 := tl_wd 8 (by simp) (xr_wd d1 a2)
  have c2 := sm_wd (sm c (tl 16 (xr d (sm a b)))) (tl 8 (xr (tl 16 (xr d (sm a b))) (sm (sm a b) (tl 12 (xr b (sm c (tl 16 (xr d (sm a b)))))))))
  have b2 := tl_wd 7 (by simp) (xr_wd b1 c2)
  exact ⟨_, _, _, _, ⟨_, _, _, _, rfl, rfl, rfl, rfl, rfl, rfl, rfl, rfl⟩, a2, b2, c2, d2⟩
theorem Qr.fn {a b c d a2 b2 c2 d2 a3 b3 c3 d3 : Int} (h : Qr a b c d a2 b2 c2 d2) (k : Qr a b c d a3 b3 c3 d3) : a2 = a3 ∧ b2 = b3 ∧ c2 = c3 ∧ d2 = d3 := by
  obtain ⟨_, _, _, _, rfl, rfl, rfl, rfl, rfl, rfl, rfl, rfl⟩ := h.step
  obtain ⟨_, _, _, _, rfl, rfl, rfl, rfl, rfl, rfl, rfl, rfl⟩ := k.step
  exact ⟨rfl, rfl, rfl, rfl⟩
theorem wrap32 (x : Int) : IntKind.u32.wrap x = x % 4294967296 := IntKind.wrap_u32 x
def tz (n x : Int) : Int := tl n.toNat x
theorem turned_any (x n : Int) (hn : n = 16 ∨ n = 12 ∨ n = 8 ∨ n = 7) (h : Wd x) (w : World) : Calls Try.prog 31 #[.int .u32 x, .int .u64 n] w fun e w' => e = .returned (.int .u32 (tz n x)) ∧ w = w' := by
  rcases hn with rfl | rfl | rfl | rfl
  · exact turned16 x h w
  · exact turned12 x h w
  · exact turned8 x h w
  · exact turned7 x h w
theorem turn_any (x n : Int) (hn : n = 16 ∨ n = 12 ∨ n = 8 ∨ n = 7) (h : Wd x) (w : World) : Calls Try.prog 25 #[.int .u32 x, .int .i64 n] w fun e w' => e = .returned (.int .u32 (tz n x)) ∧ Fr (fun _ => False) w w' := by
  rcases hn with rfl | rfl | rfl | rfl
  · exact turn16 x h w
  · exact turn12 x h w
  · exact turn8 x h w
  · exact turn7 x h w

set_option maxHeartbeats 2000000 in
theorem quarter_is (a b c d a2 b2 c2 d2 : Int) (w : World) (ha : Wd a) (hb : Wd b) (hc : Wd c) (hd : Wd d) (hq : Qr a b c d a2 b2 c2 d2) :
    Calls Try.prog 24 #[.int .u32 a, .int .u32 b, .int .u32 c, .int .u32 d] w fun e w' => e = .returned (.tuple #[.int .u32 a2, .int .u32 b2, .int .u32 c2, .int .u32 d2]) ∧ w = w' := by
  obtain ⟨a1, b1, c1, d1, ha1, hd1, hc1, hb1, ha2, hd2, hc2, hb2⟩ := hq.step
  obtain ⟨wa2, wb2, wc2, wd2⟩ := hq.wd
  obtain ⟨x1, hx1⟩ : ∃ x, x = xr d a1 := ⟨_, rfl⟩
  obtain ⟨x2, hx2⟩ : ∃ x, x = xr b c1 := ⟨_, rfl⟩
  obtain ⟨x3, hx3⟩ : ∃ x, x = xr d1 a2 := ⟨_, rfl⟩
  obtain ⟨x4, hx4⟩ : ∃ x, x = xr b1 c2 := ⟨_, rfl⟩
  have w1 : Wd a1 := by rw [ha1]; exact sm_wd _ _
  have y1 : Wd x1 := by rw [hx1]; exact xr_wd hd w1
  have w2 : Wd d1 := by rw [hd1, ← hx1]; exact tl_wd 16 (by simp) y1
  have w3 : Wd c1 := by rw [hc1]; exact sm_wd _ _
  have y2 : Wd x2 := by rw [hx2]; exact xr_wd hb w3
  have w4 : Wd b1 := by rw [hb1, ← hx2]; exact tl_wd 12 (by simp) y2
  have y3 : Wd x3 := by rw [hx3]; exact xr_wd w2 wa2
  have y4 : Wd x4 := by rw [hx4]; exact xr_wd w4 wc2
  rw [← hx1] at hd1
  rw [← hx2] at hb1
  rw [← hx3] at hd2
  rw [← hx4] at hb2
  have e1 : bits .xor .u32 d a1 = x1 := hx1.symm
  have e2 : bits .xor .u32 b c1 = x2 := hx2.symm
  have e3 : bits .xor .u32 d1 a2 = x3 := hx3.symm
  have e4 : bits .xor .u32 b1 c2 = x4 := hx4.symm
  have s1 : IntKind.u32.wrap (a + b) = a1 := by rw [wrap32, ha1]; rfl
  have s2 : IntKind.u32.wrap (c + d1) = c1 := by rw [wrap32, hc1]; rfl
  have s3 : IntKind.u32.wrap (a1 + b1) = a2 := by rw [wrap32, ha2]; rfl
  have s4 : IntKind.u32.wrap (c1 + d2) = c2 := by rw [wrap32, hc2]; rfl
  have t16 : tz 16 x1 = d1 := hd1.symm
  have t12 : tz 12 x2 = b1 := hb1.symm
  have t8 : tz 8 x3 = d2 := hd2.symm
  have t7 : tz 7 x4 = b2 := hb2.symm
  have Y1 := Lib.hid y1
  have Y2 := Lib.hid y2
  have Y3 := Lib.hid y3
  have Y4 := Lib.hid y4
  clear ha1 hd1 hc1 hb1 ha2 hd2 hc2 hb2 hx1 hx2 hx3 hx4 w1 w2 w3 w4 y1 y2 y3 y4 ha hb hc hd wa2 wb2 wc2 wd2 hq
  go_enter Try.func24, Try.ntmps24
  go_wp2_with (go_at_call 31; refine (turned_any _ _ (by simp) (by first | exact Y1.out | exact Y2.out | exact Y3.out | exact Y4.out) _).mono ?_; rintro e w' ⟨rfl, rfl⟩)
  refine bodyPost_ret (v := .tuple #[.int .u32 a2, .int .u32 b2, .int .u32 c2, .int .u32 d2]) (by simp [results, Try.results24, go_sem]) rfl ?_
  exact ⟨rfl, rfl⟩

theorem size4 : (Try.prog.info? 23).map (·.size) = some 4 := by kernel_rfl
theorem zero4 : ∀ w : World, (zeroValue 23).run Try.prog w = .ok (.agg (vs .u32 [0, 0, 0, 0])) w := fun _ => by kernel_rfl
set_option maxHeartbeats 2000000 in
theorem quarterA_is (a b c d a2 b2 c2 d2 : Int) (w : World) (ha : Wd a) (hb : Wd b) (hc : Wd c) (hd : Wd d) (hq : Qr a b c d a2 b2 c2 d2) :
    Calls Try.prog 13 #[.agg (vs .u32 [a, b, c, d])] w fun e w' => e = .returned (.agg (vs .u32 [a2, b2, c2, d2])) ∧ Fr (fun _ => False) w w' := by
  have C : ∀ W, Calls Try.prog 24 #[.int .u32 a, .int .u32 b, .int .u32 c, .int .u32 d] W fun e w' => e = .returned (.tuple #[.int .u32 a2, .int .u32 b2, .int .u32 c2, .int .u32 d2]) ∧ W = w' := fun W => quarter_is a b c d a2 b2 c2 d2 W ha hb hc hd hq
  clear ha hb hc hd hq
  simp only [vs, List.map_cons, List.map_nil]
  go_enter Try.func13, Try.ntmps13
  go_wp2_with (go_at_call 24; refine (C _).mono ?_; rintro e w' ⟨rfl, rfl⟩)
  refine bodyPost_ret (v := .agg #[.int .u32 a2, .int .u32 b2, .int .u32 c2, .int .u32 d2]) (by simp [results, Try.results13, go_sem]) rfl ?_
  exact ⟨rfl, ((Fr.refl _ _).alloc _).alloc _⟩

set_option maxHeartbeats 4000000 in
theorem rquarter_is (a b c d a2 b2 c2 d2 : Int) (w : World) (ha : Wd a) (hb : Wd b) (hc : Wd c) (hd : Wd d) (hq : Qr a b c d a2 b2 c2 d2) :
    Calls Try.prog 14 #[.agg (vs .u32 [a, b, c, d])] w fun e w' => e = .returned (.agg (vs .u32 [a2, b2, c2, d2])) ∧ Fr (fun _ => False) w w' := by
  obtain ⟨a1, b1, c1, d1, ha1, hd1, hc1, hb1, ha2, hd2, hc2, hb2⟩ := hq.step
  obtain ⟨wa2, wb2, wc2, wd2⟩ := hq.wd
  obtain ⟨x1, hx1⟩ : ∃ x, x = xr d a1 := ⟨_, rfl⟩
  obtain ⟨x2, hx2⟩ : ∃ x, x = xr b c1 := ⟨_, rfl⟩
  obtain ⟨x3, hx3⟩ : ∃ x, x = xr d1 a2 := ⟨_, rfl⟩
  obtain ⟨x4, hx4⟩ : ∃ x, x = xr b1 c2 := ⟨_, rfl⟩
  have w1 : Wd a1 := by rw [ha1]; exact sm_wd _ _
  have y1 : Wd x1 := by rw [hx1]; exact xr_wd hd w1
  have w2 : Wd d1 := by rw [hd1, ← hx1]; exact tl_wd 16 (by simp) y1
  have w3 : Wd c1 := by rw [hc1]; exact sm_wd _ _
  have y2 : Wd x2 := by rw [hx2]; exact xr_wd hb w3
  have w4 : Wd b1 := by rw [hb1, ← hx2]; exact tl_wd 12 (by simp) y2
  have y3 : Wd x3 := by rw [hx3]; exact xr_wd w2 wa2
  have y4 : Wd x4 := by rw [hx4]; exact xr_wd w4 wc2
  rw [← hx1] at hd1
  rw [← hx2] at hb1
  rw [← hx3] at hd2
  rw [← hx4] at hb2
  have e1 : bits .xor .u32 d a1 = x1 := hx1.symm
  have e2 : bits .xor .u32 b c1 = x2 := hx2.symm
  have e3 : bits .xor .u32 d1 a2 = x3 := hx3.symm
  have e4 : bits .xor .u32 b1 c2 = x4 := hx4.symm
  have s1 : IntKind.u32.wrap (a + b) = a1 := by rw [wrap32, ha1]; rfl
  have s2 : IntKind.u32.wrap (c + d1) = c1 := by rw [wrap32, hc1]; rfl
  have s3 : IntKind.u32.wrap (a1 + b1) = a2 := by rw [wrap32, ha2]; rfl
  have s4 : IntKind.u32.wrap (c1 + d2) = c2 := by rw [wrap32, hc2]; rfl
  have t16 : tz 16 x1 = d1 := hd1.symm
  have t12 : tz 12 x2 = b1 := hb1.symm
  have t8 : tz 8 x3 = d2 := hd2.symm
  have t7 : tz 7 x4 = b2 := hb2.symm
  have Y1 := Lib.hid y1
  have Y2 := Lib.hid y2
  have Y3 := Lib.hid y3
  have Y4 := Lib.hid y4
  clear ha1 hd1 hc1 hb1 ha2 hd2 hc2 hb2 hx1 hx2 hx3 hx4 w1 w2 w3 w4 y1 y2 y3 y4 ha hb hc hd wa2 wb2 wc2 wd2 hq
  simp only [vs, List.map_cons, List.map_nil]
  go_enter Try.func14, Try.ntmps14
  go_upto_region 1 with (fail)
  generalize hW : (w.alloc (.cells #[.int .u32 a, .int .u32 b, .int .u32 c, .int .u32 d] 23)).alloc (.cells #[.int .u32 0, .int .u32 0, .int .u32 0, .int .u32 0] 23) = W0
  have HW := Lib.hid (calm2 hW)
  have k0 := cell_of_row W0 w.heap.size 0 _ _ _ HW.out.1
  have k1 := cell_of_row W0 w.heap.size 1 _ _ _ HW.out.1
  have k2 := cell_of_row W0 w.heap.size 2 _ _ _ HW.out.1
  have k3 := cell_of_row W0 w.heap.size 3 _ _ _ HW.out.1
  have hW1 : w.heap.size + 1 < W0.heap.size := heap_lt HW.out.2.1
  have X1 : Hid (W0.heap[w.heap.size + 1]? = _) := Lib.hid HW.out.2.1
  have F0 : Hid (Fr (fun _ => False) w W0) := Lib.hid HW.out.2.2
  clear hW HW
  go_quiet (fail)
  have X1 : Hid ((W0.drewN nq).heap[w.heap.size + 1]? = _) := X1
  have F0 : Hid (Fr (fun _ => False) w (W0.drewN nq)) := F0.out.drewN nq
  generalize W0.drewN nq = W1 at *
  go_wp2_with (first
    | (go_at_call 25; refine (turn_any _ _ (by simp) (by first | exact Y1.out | exact Y2.out | exact Y3.out | exact Y4.out) _).mono ?_; rintro e w' ⟨rfl, hf⟩; replace X1 := Lib.hid ((hf.block _ (heap_lt X1.out) (fun x => x)).trans X1.out); replace F0 := Lib.hid (F0.out.trans hf); clear hf)
    | refine wpList_store_row rfl 23 (.tmp 2) (.tmp 47) rfl (w.heap.size + 1) (vs .u32 [a2, b2, c2, d2]) rfl rfl 23 _ X1.out (by rw [size4]; rfl) rfl (vs_all _ _) ?_)
  refine bodyPost_ret (results_cell_row Try.results14 _ _ _ 23 _ (0, 0) _ rfl (setRow_heap _ _ _ _ _ _ X1.out) Try.underlying23 rfl (by rw [size4]; rfl)) rfl ⟨rfl, F0.out.setRow _ (.inr (by omega))⟩
end Go.Proofs.Ytnagnolbomcnjaa
