/- field.From: the element of 32 bytes. The contract says its condition. -/
import Derived.Test.YtbkbodcncjhcmaaBytes
namespace Go.Proofs.Ytbkbodcncjhcmaa
open Go.RowKit

theorem p2_256 (m : Nat) : (2 : Int) ^ (8 * m) = 256 ^ m := by
  rw [Int.pow_mul]
  rfl
theorem p256_bd (m : Nat) (hm : m < 8) : 1 ≤ (256 : Int) ^ m ∧ (256 : Int) ^ m ≤ 72057594037927936 := by
  have : m = 0 ∨ m = 1 ∨ m = 2 ∨ m = 3 ∨ m = 4 ∨ m = 5 ∨ m = 6 ∨ m = 7 := by omega
  rcases this with rfl | rfl | rfl | rfl | rfl | rfl | rfl | rfl <;> decide
theorem or_bytes (n b : Int) (m : Nat) (hm : m < 8) (hn : 0 ≤ n) (hn' : n < 256 ^ m) (hb0 : 0 ≤ b) (hb1 : b ≤ 255) :
    IntKind.u64.wrap (b * 2 ^ (8 * m)) = b * 256 ^ m ∧ bits .or .u64 n (b * 256 ^ m) = n + b * 256 ^ m ∧ Wd (n + b * 256 ^ m) := by
  obtain ⟨e1, e2⟩ := p256_bd m hm
  have e3 : b * 256 ^ m ≤ 255 * 256 ^ m := Int.mul_le_mul_of_nonneg_right hb1 (by omega)
  have e4 : 0 ≤ b * 256 ^ m := Int.mul_nonneg hb0 (by omega)
  refine ⟨?_, ?_, ⟨by omega, by omega⟩⟩
  · rw [p2_256]
    exact wrap_in _ ⟨e4, by omega⟩
  · obtain ⟨n, rfl⟩ := Int.eq_ofNat_of_zero_le hn
    obtain ⟨b, rfl⟩ := Int.eq_ofNat_of_zero_le hb0
    have c : (b : Int) * 256 ^ m = ((2 ^ (8 * m) * b : Nat) : Int) := by
      rw [Nat.pow_mul]
      simp [Int.mul_comm]
    have g : n < 2 ^ (8 * m) := by
      have : (n : Int) < ((2 ^ (8 * m) : Nat) : Int) := by rw [Nat.pow_mul]; simpa using hn'
      omega
    rw [c] at e3 e4 ⊢
    rw [bits_or_u64_nat n _ (by omega) (by omega), Nat.or_comm, ← Nat.two_pow_add_eq_or_of_lt g]
    simp [Int.add_comm]

theorem least_agg {n0 n1 n2 n3 V v a b c d : Int} (w : World) (h0 : Wd n0) (h1 : Wd n1) (h2 : Wd n2) (h3 : Wd n3) (hV : Hid (wv n0 n1 n2 n3 = V ∧ V < 2 * pp ∧ V % pp = v)) (he : el v = .agg #[.int .u64 a, .int .u64 b, .int .u64 c, .int .u64 d]) :
    Calls Try.prog 36 #[.int .u64 n0, .int .u64 n1, .int .u64 n2, .int .u64 n3] w fun e w' => e = .returned (.agg #[.int .u64 a, .int .u64 b, .int .u64 c, .int .u64 d]) ∧ Fr (fun _ => False) w w' := by
  rw [← he]
  exact least_is n0 n1 n2 n3 V v w h0 h1 h2 h3 hV

theorem alloc3 (w : World) (A B C : Obj) : (((w.alloc A).alloc B).alloc C).heap[w.heap.size]? = some A ∧ (((w.alloc A).alloc B).alloc C).heap[w.heap.size + 1]? = some B ∧ (((w.alloc A).alloc B).alloc C).heap[w.heap.size + 1 + 1]? = some C := by
  have s1 : (w.alloc A).heap.size = w.heap.size + 1 := by simp
  have s2 : ((w.alloc A).alloc B).heap.size = w.heap.size + 1 + 1 := by simp
  have e1 := heap_alloc_new (w.alloc A) B
  have e2 := heap_alloc_new ((w.alloc A).alloc B) C
  rw [s1] at e1
  rw [s2] at e2
  refine ⟨?_, ?_, e2⟩
  · exact (Below.heap_alloc _ C _ (by rw [s2]; omega)).trans ((Below.heap_alloc _ B _ (by rw [s1]; omega)).trans (heap_alloc_new w A))
  · exact (Below.heap_alloc _ C _ (by rw [s2]; omega)).trans e1
theorem set4 {w : World} {g : Nat} {t : TypeId} {x0 x1 x2 x3 : Value} (a b c d : Value) (h : w.heap[g]? = some (.cells #[x0, x1, x2, x3] t (0, 0))) :
    ((((w.setCell ⟨g, 0, none⟩ a).setCell ⟨g, 1, none⟩ b).setCell ⟨g, 2, none⟩ c).setCell ⟨g, 3, none⟩ d).heap[g]? = some (.cells #[a, b, c, d] t (0, 0)) :=
  heap_setCell_same _ _ _ _ _ _ (heap_setCell_same _ _ _ _ _ _ (heap_setCell_same _ _ _ _ _ _ (heap_setCell_same _ _ _ _ _ _ h)))
theorem Fr.set4 {S : Nat → Prop} {u w : World} {g : Nat} (a b c d : Value) (h : Fr S u w) (hg : u.heap.size ≤ g) :
    Fr S u ((((w.setCell ⟨g, 0, none⟩ a).setCell ⟨g, 1, none⟩ b).setCell ⟨g, 2, none⟩ c).setCell ⟨g, 3, none⟩ d) :=
  (((h.setCell a (.inr hg)).setCell b (.inr hg)).setCell c (.inr hg)).setCell d (.inr hg)
theorem size28 : (Try.prog.info? 37).map (·.size) = some 4 := by kernel_rfl

set_option maxHeartbeats 1000000 in
theorem from_is (l : List Int) (w : World) (hl : l.length = 32) (hb : Bys l) :
    Calls Try.prog 22 #[.agg (bs l).toArray] w fun e w' => e = .returned (el (vl l % 57896044618658097711785492504343953926634992332820282019728792003956564819968 % pp)) ∧ Fr (fun _ => False) w w' := by
  go_enter Try.func22, Try.ntmps22
  go_wp2
  go_loopw [4, 5] (fun u i wr => ∃ (k : Nat) (n0 n1 n2 n3 : Int), i = .int .i64 k ∧ k ≤ 32 ∧ Hid (Wd n0 ∧ Wd n1 ∧ Wd n2 ∧ Wd n3 ∧ wv n0 n1 n2 n3 = vl (l.take k)) ∧
      Hid (wr.heap[w.heap.size]? = some (.cells (bs l).toArray 22 (0, 0))) ∧ Hid (wr.heap[w.heap.size + 1]? = some (.cells #[.int .u64 0, .int .u64 0, .int .u64 0, .int .u64 0] 37 (0, 0))) ∧
      Hid (wr.heap[w.heap.size + 1 + 1]? = some (.cells #[.int .u64 n0, .int .u64 n1, .int .u64 n2, .int .u64 n3] 35 (0, 0))) ∧ Hid (Fr (fun _ => False) w wr))
    (fun _ i _ => 32 - (intOf i).toNat)
  case atStart =>
    obtain ⟨e1, e2, e3⟩ := alloc3 w (.cells (bs l).toArray 22) (.cells #[.int .u64 0, .int .u64 0, .int .u64 0, .int .u64 0] 37) (.cells #[.int .u64 0, .int .u64 0, .int .u64 0, .int .u64 0] 35)
    exact ⟨0, 0, 0, 0, 0, rfl, by omega, ⟨⟨by decide, by decide⟩, ⟨by decide, by decide⟩, ⟨by decide, by decide⟩, ⟨by decide, by decide⟩, rfl⟩, e1, e2, e3, (((Fr.refl _ _).alloc _).alloc _).alloc _⟩
  case round =>
    obtain ⟨k, n0, n1, n2, n3, rfl, hk, hn, hB, hR, hN, hF⟩ := hrel
    by_cases hlt : k < 32
    · obtain ⟨b, hbk⟩ : ∃ b, l[k]? = some b := ⟨_, List.getElem?_eq_getElem (by omega)⟩
      have hcb : wr.cell? ⟨w.heap.size, k, none⟩ = some (.int .u8 b) := by
        rw [cell_of_row wr _ k _ _ _ hB.out]
        simp [bs, hbk]
      have hbb := hb b (List.mem_of_getElem? hbk)
      have b0 := hbb.1
      have b1 := hbb.2
      have HS : Hid (vl (l.take (k + 1)) = vl (l.take k) + 256 ^ k * b ∧ vl (l.take k) < 256 ^ k) := by
        refine ⟨?_, ?_⟩
        · rw [vl_take_succ l k (by omega)]
          rw [List.getElem?_eq_getElem (by omega)] at hbk
          injection hbk with hbk
          rw [hbk]
        · have := (vl_bd (l.take k) (fun x hx => hb x (List.mem_of_mem_take hx))).2
          rwa [List.length_take, Nat.min_eq_left (by omega)] at this
      obtain ⟨m, hm⟩ : ∃ m : Nat, k % 8 = m := ⟨_, rfl⟩
      have hmm : ((k : Int) % 8) = m := by omega
      have hm8 : m < 8 := by omega
      have HM := Lib.hid hm
      have HL := Lib.hid hl
      clear hbk hm hl hbb
      have hj : (k : Int) / 8 = 0 ∨ (k : Int) / 8 = 1 ∨ (k : Int) / 8 = 2 ∨ (k : Int) / 8 = 3 := by omega
      rcases hj with hj | hj | hj | hj
      · have hcn : wr.cell? ⟨w.heap.size + 1 + 1, 0, none⟩ = some (.int .u64 n0) := by rw [cell_of_row wr _ 0 _ _ _ hN.out]; rfl
        have hfn : wr.frozen? ⟨w.heap.size + 1 + 1, 0, none⟩ = false := frozen_of_row _ _ _ _ _ hN.out
        obtain ⟨x, y, hy, hx, HX⟩ : ∃ x y, IntKind.u64.wrap (b * 2 ^ (8 * m)) = y ∧ bits .or .u64 n0 y = x ∧ Hid (Wd x ∧ wv x n1 n2 n3 = vl (l.take (k + 1))) := by
          obtain ⟨g0, g1, g2, g3, g4⟩ := hn.out
          obtain ⟨g5, g6⟩ := HS.out
          have hkm : k = 8 * 0 + m := by have := HM.out; omega
          have ek : (256 : Int) ^ k = 1 * 256 ^ m := by
            rw [hkm, Int.pow_add]
            rfl
          rw [ek] at g5 g6
          rw [← g4] at g5 g6
          unfold Wd at g0 g1 g2 g3
          unfold wv at g5 g6
          obtain ⟨e1, e2, e3⟩ := or_bytes n0 b m hm8 (by omega) (by omega) b0 b1
          refine ⟨_, _, e1, e2, e3, ?_⟩
          rw [g5, Int.mul_assoc, Int.mul_comm b]
          unfold wv
          omega
        go_wp2
        go_region
        go_wp2
        go_roundw
        case rel =>
          obtain ⟨g0, g1, g2, g3, g4⟩ := hn.out
          refine ⟨k + 1, x, n1, n2, n3, by go_num, by omega, ⟨HX.out.1, g1, g2, g3, HX.out.2⟩, ?_, ?_, ?_, (Fr.setCell hF.out _ (.inr (by simp; omega))).drew⟩
          · exact (heap_setCell_other _ _ _ _ (by simp; omega)).trans hB.out
          · exact (heap_setCell_other _ _ _ _ (by simp)).trans hR.out
          · exact heap_setCell_same _ _ _ _ _ _ hN.out
        case measure => simp [intOf]; omega
      · have hcn : wr.cell? ⟨w.heap.size + 1 + 1, 1, none⟩ = some (.int .u64 n1) := by rw [cell_of_row wr _ 1 _ _ _ hN.out]; rfl
        have hfn : wr.frozen? ⟨w.heap.size + 1 + 1, 1, none⟩ = false := frozen_of_row _ _ _ _ _ hN.out
        obtain ⟨x, y, hy, hx, HX⟩ : ∃ x y, IntKind.u64.wrap (b * 2 ^ (8 * m)) = y ∧ bits .or .u64 n1 y = x ∧ Hid (Wd x ∧ wv n0 x n2 n3 = vl (l.take (k + 1))) := by
          obtain ⟨g0, g1, g2, g3, g4⟩ := hn.out
          obtain ⟨g5, g6⟩ := HS.out
          have hkm : k = 8 * 1 + m := by have := HM.out; omega
          have ek : (256 : Int) ^ k = 18446744073709551616 * 256 ^ m := by
            rw [hkm, Int.pow_add]
            rfl
          rw [ek] at g5 g6
          rw [← g4] at g5 g6
          unfold Wd at g0 g1 g2 g3
          unfold wv at g5 g6
          obtain ⟨e1, e2, e3⟩ := or_bytes n1 b m hm8 (by omega) (by omega) b0 b1
          refine ⟨_, _, e1, e2, e3, ?_⟩
          rw [g5, Int.mul_assoc, Int.mul_comm b]
          unfold wv
          omega
        go_wp2
        go_region
        go_wp2
        go_roundw
        case rel =>
          obtain ⟨g0, g1, g2, g3, g4⟩ := hn.out
          refine ⟨k + 1, n0, x, n2, n3, by go_num, by omega, ⟨g0, HX.out.1, g2, g3, HX.out.2⟩, ?_, ?_, ?_, (Fr.setCell hF.out _ (.inr (by simp; omega))).drew⟩
          · exact (heap_setCell_other _ _ _ _ (by simp; omega)).trans hB.out
          · exact (heap_setCell_other _ _ _ _ (by simp)).trans hR.out
          · exact heap_setCell_same _ _ _ _ _ _ hN.out
        case measure => simp [intOf]; omega
      · have hcn : wr.cell? ⟨w.heap.size + 1 + 1, 2, none⟩ = some (.int .u64 n2) := by rw [cell_of_row wr _ 2 _ _ _ hN.out]; rfl
        have hfn : wr.frozen? ⟨w.heap.size + 1 + 1, 2, none⟩ = false := frozen_of_row _ _ _ _ _ hN.out
        obtain ⟨x, y, hy, hx, HX⟩ : ∃ x y, IntKind.u64.wrap (b * 2 ^ (8 * m)) = y ∧ bits .or .u64 n2 y = x ∧ Hid (Wd x ∧ wv n0 n1 x n3 = vl (l.take (k + 1))) := by
          obtain ⟨g0, g1, g2, g3, g4⟩ := hn.out
          obtain ⟨g5, g6⟩ := HS.out
          have hkm : k = 8 * 2 + m := by have := HM.out; omega
          have ek : (256 : Int) ^ k = 340282366920938463463374607431768211456 * 256 ^ m := by
            rw [hkm, Int.pow_add]
            rfl
          rw [ek] at g5 g6
          rw [← g4] at g5 g6
          unfold Wd at g0 g1 g2 g3
          unfold wv at g5 g6
          obtain ⟨e1, e2, e3⟩ := or_bytes n2 b m hm8 (by omega) (by omega) b0 b1
          refine ⟨_, _, e1, e2, e3, ?_⟩
          rw [g5, Int.mul_assoc, Int.mul_comm b]
          unfold wv
          omega
        go_wp2
        go_region
        go_wp2
        go_roundw
        case rel =>
          obtain ⟨g0, g1, g2, g3, g4⟩ := hn.out
          refine ⟨k + 1, n0, n1, x, n3, by go_num, by omega, ⟨g0, g1, HX.out.1, g3, HX.out.2⟩, ?_, ?_, ?_, (Fr.setCell hF.out _ (.inr (by simp; omega))).drew⟩
          · exact (heap_setCell_other _ _ _ _ (by simp; omega)).trans hB.out
          · exact (heap_setCell_other _ _ _ _ (by simp)).trans hR.out
          · exact heap_setCell_same _ _ _ _ _ _ hN.out
        case measure => simp [intOf]; omega
      · have hcn : wr.cell? ⟨w.heap.size + 1 + 1, 3, none⟩ = some (.int .u64 n3) := by rw [cell_of_row wr _ 3 _ _ _ hN.out]; rfl
        have hfn : wr.frozen? ⟨w.heap.size + 1 + 1, 3, none⟩ = false := frozen_of_row _ _ _ _ _ hN.out
        obtain ⟨x, y, hy, hx, HX⟩ : ∃ x y, IntKind.u64.wrap (b * 2 ^ (8 * m)) = y ∧ bits .or .u64 n3 y = x ∧ Hid (Wd x ∧ wv n0 n1 n2 x = vl (l.take (k + 1))) := by
          obtain ⟨g0, g1, g2, g3, g4⟩ := hn.out
          obtain ⟨g5, g6⟩ := HS.out
          have hkm : k = 8 * 3 + m := by have := HM.out; omega
          have ek : (256 : Int) ^ k = 6277101735386680763835789423207666416102355444464034512896 * 256 ^ m := by
            rw [hkm, Int.pow_add]
            rfl
          rw [ek] at g5 g6
          rw [← g4] at g5 g6
          unfold Wd at g0 g1 g2 g3
          unfold wv at g5 g6
          obtain ⟨e1, e2, e3⟩ := or_bytes n3 b m hm8 (by omega) (by omega) b0 b1
          refine ⟨_, _, e1, e2, e3, ?_⟩
          rw [g5, Int.mul_assoc, Int.mul_comm b]
          unfold wv
          omega
        go_wp2
        go_region
        go_wp2
        go_roundw
        case rel =>
          obtain ⟨g0, g1, g2, g3, g4⟩ := hn.out
          refine ⟨k + 1, n0, n1, n2, x, by go_num, by omega, ⟨g0, g1, g2, HX.out.1, HX.out.2⟩, ?_, ?_, ?_, (Fr.setCell hF.out _ (.inr (by simp; omega))).drew⟩
          · exact (heap_setCell_other _ _ _ _ (by simp; omega)).trans hB.out
          · exact (heap_setCell_other _ _ _ _ (by simp)).trans hR.out
          · exact heap_setCell_same _ _ _ _ _ _ hN.out
        case measure => simp [intOf]; omega
    · obtain rfl : k = 32 := by omega
      have hc0 : wr.cell? ⟨w.heap.size + 1 + 1, 0, none⟩ = some (.int .u64 n0) := by rw [cell_of_row wr _ 0 _ _ _ hN.out]; rfl
      have hc1 : wr.cell? ⟨w.heap.size + 1 + 1, 1, none⟩ = some (.int .u64 n1) := by rw [cell_of_row wr _ 1 _ _ _ hN.out]; rfl
      have hc2 : wr.cell? ⟨w.heap.size + 1 + 1, 2, none⟩ = some (.int .u64 n2) := by rw [cell_of_row wr _ 2 _ _ _ hN.out]; rfl
      have hc3 : wr.cell? ⟨w.heap.size + 1 + 1, 3, none⟩ = some (.int .u64 n3) := by rw [cell_of_row wr _ 3 _ _ _ hN.out]; rfl
      obtain ⟨g0, g1, g2, g3, g4⟩ := hn.out
      have hlo := low63 n3 g3
      obtain ⟨x3, hx3⟩ : ∃ x, n3 % 9223372036854775808 = x := ⟨_, rfl⟩
      have gx : Wd x3 := by unfold Wd; omega
      obtain ⟨v, hv⟩ : ∃ v, v = vl l % 57896044618658097711785492504343953926634992332820282019728792003956564819968 % pp := ⟨_, rfl⟩
      have hV : Hid (wv n0 n1 n2 x3 = vl l % 57896044618658097711785492504343953926634992332820282019728792003956564819968 ∧ vl l % 57896044618658097711785492504343953926634992332820282019728792003956564819968 < 2 * pp ∧ vl l % 57896044618658097711785492504343953926634992332820282019728792003956564819968 % pp = v) := by
        refine ⟨?_, ?_, hv.symm⟩
        · rw [List.take_of_length_le (by omega)] at g4
          rw [← g4]
          unfold Wd at *
          unfold wv
          omega
        · unfold pp; omega
      obtain ⟨a, b, c, d, he, ha, hb', hc, hd, _⟩ := el_words (v := v) (by rw [hv]; exact Int.emod_nonneg _ (by decide)) (by rw [hv]; exact Int.emod_lt_of_pos _ (by decide))
      have HE : Hid (el v = .agg #[.int .u64 a, .int .u64 b, .int .u64 c, .int .u64 d] ∧ v = vl l % 57896044618658097711785492504343953926634992332820282019728792003956564819968 % pp) := ⟨he, hv⟩
      rw [hx3] at hlo
      have Q0 := Lib.hid g0
      have Q1 := Lib.hid g1
      have Q2 := Lib.hid g2
      have Q3 := Lib.hid gx
      clear hx3 hv he g4 g0 g1 g2 g3 gx ha hb' hc hd
      go_wp2_with fail
      refine (least_agg _ Q0.out Q1.out Q2.out Q3.out hV HE.out.1).mono ?_
      rintro e w5 ⟨rfl, hf5⟩
      have F5 : Hid (Fr (fun _ => False) w w5) := hF.out.trans hf5
      have R5 : Hid (w5.heap[w.heap.size + 1]? = some (.cells #[.int .u64 0, .int .u64 0, .int .u64 0, .int .u64 0] 37 (0, 0))) := (hf5.block _ (heap_lt hR.out) (fun x => x)).trans hR.out
      have r0 : w5.cell? ⟨w.heap.size + 1, 0, none⟩ = some (.int .u64 0) := by rw [cell_of_row w5 _ 0 _ _ _ R5.out]; rfl
      have r1 : w5.cell? ⟨w.heap.size + 1, 1, none⟩ = some (.int .u64 0) := by rw [cell_of_row w5 _ 1 _ _ _ R5.out]; rfl
      have r2 : w5.cell? ⟨w.heap.size + 1, 2, none⟩ = some (.int .u64 0) := by rw [cell_of_row w5 _ 2 _ _ _ R5.out]; rfl
      have r3 : w5.cell? ⟨w.heap.size + 1, 3, none⟩ = some (.int .u64 0) := by rw [cell_of_row w5 _ 3 _ _ _ R5.out]; rfl
      have f0 : ∀ j, w5.frozen? ⟨w.heap.size + 1, j, none⟩ = false := fun j => frozen_of_row _ _ _ _ _ R5.out
      clear hf5
      go_wp2
      refine bodyPost_ret (results_cell_row Try.results22 _ _ _ 37 _ (0, 0) _ rfl (set4 _ _ _ _ R5.out) Try.underlying37 rfl size28) rfl ⟨?_, F5.out.set4 _ _ _ _ (by omega)⟩
      rw [← HE.out.2, HE.out.1]
end Go.Proofs.Ytbkbodcncjhcmaa
