/- field's Small, Zero, Add, Sub: contracts. Each says its condition: elements below p. -/
import Derived.Test.YtbkbodcncjhcmaaArrEq
namespace Go.Proofs.Ytbkbodcncjhcmaa
open Go.RowKit

def El (v : Int) : Prop := 0 ≤ v ∧ v < pp
theorem El.mod (v : Int) : El (v % pp) := ⟨Int.emod_nonneg _ (by decide), Int.emod_lt_of_pos _ (by decide)⟩
theorem El.of {v r : Int} (h : v % pp = r) : El r := h ▸ El.mod v

set_option maxHeartbeats 400000 in
theorem small_is (n : Int) (w : World) (h0 : 0 ≤ n) (h1 : n ≤ 4294967295) :
    Calls Try.prog 25 #[.int .u32 n] w fun e w' => e = .returned (el n) ∧ Fr (fun _ => False) w w' := by
  have HE : Hid (el n = .agg #[.int .u64 n, .int .u64 0, .int .u64 0, .int .u64 0]) :=
    el_eq ⟨h0, by omega⟩ ⟨by decide, by decide⟩ ⟨by decide, by decide⟩ ⟨by decide, by decide⟩ (by unfold wv; omega)
  go_enter Try.func25, Try.ntmps25
  go_wp2
  refine bodyPost_ret (v := .agg #[.int .u64 n, .int .u64 0, .int .u64 0, .int .u64 0]) (by simp [results, Try.results25, go_sem]) rfl ?_
  exact ⟨by rw [HE.out], (Fr.refl _ _).alloc _⟩

theorem info24 : ∃ i, Try.prog.info? 33 = some i := by
  obtain ⟨i, h, _⟩ := info_parts (show (Try.prog.info? 33).map (fun i => (i.zero, i.size, i.bytes)) = some (some (.int .u64 0), 1, 8) by kernel_rfl)
  exact ⟨i, h⟩
theorem eq26 (a b c d a' b' c' d' : Int) (w : World) : (Op.equalIn 9999 35 (.agg #[.int .u64 a, .int .u64 b, .int .u64 c, .int .u64 d]) (.agg #[.int .u64 a', .int .u64 b', .int .u64 c', .int .u64 d'])).run Try.prog w = .ok (decide ([a, b, c, d] = [a', b', c', d'])) w := by
  obtain ⟨i, hi⟩ := info24
  exact run_equalIn_ints (P := Try.prog) (k := .u64) (k' := .u64) (n := 4) (e := 33) 9997 Try.underlying35 hi Try.underlying33 (by kernel_rfl) (by kernel_rfl) [a, b, c, d] [a', b', c', d'] rfl rfl w

set_option maxHeartbeats 1000000 in
theorem add_is (u v r : Int) (w : World) (hu : El u) (hv : El v) (hr : Hid ((u + v) % pp = r)) :
    Calls Try.prog 50 #[el u, el v] w fun e w' => e = .returned (el r) ∧ Fr (fun _ => False) w w' := by
  obtain ⟨a0, a1, a2, a3, he, ha0, ha1, ha2, ha3, ha⟩ := el_words hu.1 hu.2
  obtain ⟨b0, b1, b2, b3, he', hb0, hb1, hb2, hb3, hb⟩ := el_words hv.1 hv.2
  obtain ⟨r0, r1, r2, r3, her, -, -, -, -, -⟩ := el_words (El.of hr.out).1 (El.of hr.out).2
  obtain ⟨s0, c0, hs0, hc00, hc01, hd0, f0⟩ := run_add_ex a0 b0 0 ha0 hb0 (by decide) (by decide)
  obtain ⟨s1, c1, hs1, hc10, hc11, hd1, f1⟩ := run_add_ex a1 b1 c0 ha1 hb1 hc00 hc01
  obtain ⟨s2, c2, hs2, hc20, hc21, hd2, f2⟩ := run_add_ex a2 b2 c1 ha2 hb2 hc10 hc11
  have w1 : IntKind.u64.wrap (a3 + b3) = a3 + b3 := wrap_in _ (by unfold Wd; omega)
  have ht : Wd (a3 + b3 + c2) ∧ wv s0 s1 s2 (a3 + b3 + c2) = u + v := by
    have q0 := hd0.out
    have q1 := hd1.out
    have q2 := hd2.out
    have qa := ha.out
    have qb := hb.out
    obtain ⟨_, hu1⟩ := hu
    obtain ⟨_, hv1⟩ := hv
    unfold Wd at *
    unfold pp at hu1 hv1
    unfold wv at *
    constructor
    · omega
    · omega
  have w2 : IntKind.u64.wrap (a3 + b3 + c2) = a3 + b3 + c2 := wrap_in _ ht.1
  have C := fun W => least_agg (V := u + v) (v := r) (a := r0) (b := r1) (c := r2) (d := r3) W hs0 hs1 hs2 ht.1 ⟨ht.2, by have := hu.2; have := hv.2; omega, hr.out⟩ her
  rw [he, he', her]
  have HV := Lib.hid (And.intro hu hv)
  clear hu hv he he' her ht ha0 ha1 ha2 ha3 hb0 hb1 hb2 hb3 hs0 hs1 hs2
  go_enter Try.func50, Try.ntmps50
  go_wp2_with fail
  refine (C _).mono ?_
  rintro e w1 ⟨rfl, hf⟩
  obtain ⟨e1, e2, e3⟩ := alloc3 w (.cells #[.int .u64 a0, .int .u64 a1, .int .u64 a2, .int .u64 a3] 37) (.cells #[.int .u64 b0, .int .u64 b1, .int .u64 b2, .int .u64 b3] 37) (.cells #[.int .u64 0, .int .u64 0, .int .u64 0, .int .u64 0] 37)
  have R5 := Lib.hid ((hf.block _ (heap_lt e3) (fun x => x)).trans e3)
  have F5 : Hid (Fr (fun _ => False) w w1) := ((((Fr.refl _ _).alloc _).alloc _).alloc _).trans hf
  clear hf e1 e2 e3
  have r0 : w1.cell? ⟨w.heap.size + 1 + 1, 0, none⟩ = some (.int .u64 0) := by rw [cell_of_row w1 _ 0 _ _ _ R5.out]; rfl
  have r1 : w1.cell? ⟨w.heap.size + 1 + 1, 1, none⟩ = some (.int .u64 0) := by rw [cell_of_row w1 _ 1 _ _ _ R5.out]; rfl
  have r2 : w1.cell? ⟨w.heap.size + 1 + 1, 2, none⟩ = some (.int .u64 0) := by rw [cell_of_row w1 _ 2 _ _ _ R5.out]; rfl
  have r3 : w1.cell? ⟨w.heap.size + 1 + 1, 3, none⟩ = some (.int .u64 0) := by rw [cell_of_row w1 _ 3 _ _ _ R5.out]; rfl
  have f0 : ∀ j, w1.frozen? ⟨w.heap.size + 1 + 1, j, none⟩ = false := fun j => frozen_of_row _ _ _ _ _ R5.out
  go_wp2
  exact bodyPost_ret (results_cell_row Try.results50 _ _ _ 37 _ (0, 0) _ rfl (set4 _ _ _ _ R5.out) Try.underlying37 rfl size28) rfl ⟨rfl, F5.out.set4 _ _ _ _ (by omega)⟩

set_option maxHeartbeats 1000000 in
theorem sub_is (u v r : Int) (w : World) (hu : El u) (hv : El v) (hr : Hid ((u - v) % pp = r)) :
    Calls Try.prog 24 #[el u, el v] w fun e w' => e = .returned (el r) ∧ Fr (fun _ => False) w w' := by
  obtain ⟨a0, a1, a2, a3, he, ha0, ha1, ha2, ha3, ha⟩ := el_words hu.1 hu.2
  obtain ⟨b0, b1, b2, b3, he', hb0, hb1, hb2, hb3, hb⟩ := el_words hv.1 hv.2
  obtain ⟨s0, c0, hs0, hc00, hc01, hd0, f0⟩ := run_sub_ex a0 b0 0 ha0 hb0 (by decide) (by decide)
  obtain ⟨s1, c1, hs1, hc10, hc11, hd1, f1⟩ := run_sub_ex a1 b1 c0 ha1 hb1 hc00 hc01
  obtain ⟨s2, c2, hs2, hc20, hc21, hd2, f2⟩ := run_sub_ex a2 b2 c1 ha2 hb2 hc10 hc11
  obtain ⟨s3, c3, hs3, hc30, hc31, hd3, f3⟩ := run_sub_ex a3 b3 c2 ⟨ha3.1, by omega⟩ ⟨hb3.1, by omega⟩ hc20 hc21
  have hm : Wd (c3 * 19) := ⟨by omega, by omega⟩
  have wm : IntKind.u64.wrap (c3 * 19) = c3 * 19 := wrap_in _ hm
  obtain ⟨t0, d0, ht0, hd00, hd01, he0, g0⟩ := run_sub_ex s0 (c3 * 19) 0 hs0 hm (by decide) (by decide)
  obtain ⟨t1, d1, ht1, hd10, hd11, he1, g1⟩ := run_sub_ex s1 0 d0 hs1 ⟨by decide, by decide⟩ hd00 hd01
  obtain ⟨t2, d2, ht2, hd20, hd21, he2, g2⟩ := run_sub_ex s2 0 d1 hs2 ⟨by decide, by decide⟩ hd10 hd11
  have ht : Wd (s3 - d2) ∧ wv t0 t1 t2 ((s3 - d2) % 9223372036854775808) = r := by
    have qr := hr.out
    have X1 : wv s0 s1 s2 s3 = u - v + 115792089237316195423570985008687907853269984665640564039457584007913129639936 * c3 := by
      have q0 := hd0.out
      have q1 := hd1.out
      have q2 := hd2.out
      have q3 := hd3.out
      rw [ha.out, hb.out]
      unfold wv
      clear hr qr hd0 hd1 hd2 hd3 he0 he1 he2 ha hb
      omega
    have X2 : wv t0 t1 t2 (s3 - d2) = wv s0 s1 s2 s3 - 19 * c3 := by
      have p0 := he0.out
      have p1 := he1.out
      have p2 := he2.out
      unfold wv
      clear X1 hr qr hd0 hd1 hd2 hd3 he0 he1 he2 ha hb
      omega
    have X6 : 0 ≤ wv s0 s1 s2 s3 ∧ wv s0 s1 s2 s3 < 115792089237316195423570985008687907853269984665640564039457584007913129639936 := by
      unfold wv
      unfold Wd at hs0 hs1 hs2 hs3
      omega
    rw [X1] at X6
    obtain ⟨x, hx⟩ : ∃ x, x = wv t0 t1 t2 (s3 - d2) := ⟨_, rfl⟩
    have X3 : x = u - v + 115792089237316195423570985008687907853269984665640564039457584007913129639936 * c3 - 19 * c3 := by rw [hx, X2, X1]
    have X4 : wv t0 t1 t2 ((s3 - d2) % 9223372036854775808) = x - 57896044618658097711785492504343953926634992332820282019728792003956564819968 * ((s3 - d2) / 9223372036854775808) := by
      rw [hx]
      unfold wv
      omega
    rw [X4]
    have X5 : 0 ≤ x - 6277101735386680763835789423207666416102355444464034512896 * (s3 - d2) ∧ x - 6277101735386680763835789423207666416102355444464034512896 * (s3 - d2) < 6277101735386680763835789423207666416102355444464034512896 := by
      rw [hx]
      unfold wv
      unfold Wd at ht0 ht1 ht2
      omega
    obtain ⟨y, hy⟩ : ∃ y, y = s3 - d2 := ⟨_, rfl⟩
    rw [← hy] at X5 ⊢
    clear hx X1 X2 X4 he0 he1 he2 hd0 hd1 hd2 hd3 ht0 ht1 ht2 hs0 hs1 hs2 ha0 ha1 ha2 ha3 hb0 hb1 hb2 hb3 ha hb f0 f1 f2 f3 g0 g1 g2
    obtain ⟨hu0, hu1⟩ := hu
    obtain ⟨hv0, hv1⟩ := hv
    unfold pp at hu1 hv1 qr
    unfold Wd at *
    have hc : c3 = 0 ∨ c3 = 1 := by omega
    have hqr : r = u - v + 57896044618658097711785492504343953926634992332820282019728792003956564819949 * c3 := by
      rcases hc with rfl | rfl
      · omega
      · omega
    clear hr qr
    rcases hc with rfl | rfl
    · constructor <;> omega
    · constructor <;> omega
  have w2 : IntKind.u64.wrap (s3 - d2) = s3 - d2 := wrap_in _ ht.1
  have w3 : bits .and .u64 (s3 - d2) 9223372036854775807 = (s3 - d2) % 9223372036854775808 := low63 _ ht.1
  have her : Hid (el r = .agg #[.int .u64 t0, .int .u64 t1, .int .u64 t2, .int .u64 ((s3 - d2) % 9223372036854775808)]) :=
    el_eq ht0 ht1 ht2 ⟨by omega, by omega⟩ ht.2
  rw [he, he']
  have HV := Lib.hid (And.intro hu hv)
  clear hu hv he he' ht ha0 ha1 ha2 ha3 hb0 hb1 hb2 hb3 hs0 hs1 hs2 hs3 ht0 ht1 ht2 hm hr
  go_enter Try.func24, Try.ntmps24
  go_wp2
  refine bodyPost_ret (v := .agg #[.int .u64 t0, .int .u64 t1, .int .u64 t2, .int .u64 ((s3 - d2) % 9223372036854775808)]) (by simp [results, Try.results24, go_sem]) rfl ?_
  exact ⟨by rw [her.out], (((Fr.refl _ _).alloc _).alloc _).alloc _⟩
end Go.Proofs.Ytbkbodcncjhcmaa
