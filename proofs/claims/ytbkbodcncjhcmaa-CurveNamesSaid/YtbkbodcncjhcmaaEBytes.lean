/- field.Elem.Bytes: the 32 bytes of an element; whole rows of cells loaded and stored. Contracts, each says its condition. -/
import Derived.Test.YtbkbodcncjhcmaaArith
namespace Go.Proofs.Ytbkbodcncjhcmaa
open Go.RowKit

theorem Fr.setRow {S : Nat → Prop} {a b : World} (h : Fr S a b) {g : Nat} (cs : Array Value) (hp : S g ∨ a.heap.size ≤ g) : Fr S a (b.setRow g cs) :=
  ⟨h.os, h.tape, h.output, by simpa using h.size, fun i hi hs => (setRow_other b g i cs (by
    rintro rfl
    rcases hp with hp | hp
    · exact hs hp
    · omega)).trans (h.block i hi hs)⟩
theorem run_load_row {P : Program} (w : World) (g : Nat) (t ty : TypeId) (cs : Array Value) (fr : Nat × Nat) (d : TypeDesc) (hg : w.heap[g]? = some (.cells cs t fr))
    (hu : P.underlying ty = some d) (hd : (match d with | .struct _ | .array _ _ => true | _ => false) = true) (hi : (P.info? ty).map (·.size) = some cs.size) :
    (Instr.loadAt ty (.pointer (some ⟨g, 0, none⟩))).run P w = .ok (.agg cs) w := by
  simp only [Instr.loadAt, Instr.sureAddr, Sem.run_bind, Sem.run_pure, Result.andThen_ok, run_loadVar_row w g t ty cs fr d hg hu hd hi]
theorem run_store_row {P : Program} (w : World) (g : Nat) (t ty : TypeId) (old cells : Array Value) (hg : w.heap[g]? = some (.cells old t (0, 0))) (hi : (P.info? ty).map (·.size) = some cells.size)
    (ho : old.size = cells.size) (h1 : cells.all (·.oneCell') = true) :
    (Instr.storeAt ty (.pointer (some ⟨g, 0, none⟩)) (.agg cells)).run P w = .ok () (w.setRow g cells) := by
  simp only [Instr.storeAt, Instr.sureAddr, Sem.run_bind, Sem.run_pure, Result.andThen_ok, run_storeVar_row w g t ty old cells hg hi ho h1]

/-- A list that is filled from its head on. -/
def fil {α : Type} (L : List α) (k : Nat) (x : α) : List α := L.take k ++ List.replicate (L.length - k) x
theorem fil_length {α : Type} (L : List α) (k : Nat) (x : α) (h : k ≤ L.length) : (fil L k x).length = L.length := by simp [fil]; omega
theorem fil_zero {α : Type} (L : List α) (x : α) : fil L 0 x = List.replicate L.length x := by simp [fil]
theorem fil_all {α : Type} (L : List α) (x : α) : fil L L.length x = L := by simp [fil]
theorem fil_set {α : Type} (L : List α) (k : Nat) (x y : α) (h : L[k]? = some y) : (fil L k x).set k y = fil L (k + 1) x := by
  have hk : k < L.length := (List.getElem?_eq_some_iff.1 h).1
  have hy : L[k] = y := by rw [List.getElem?_eq_getElem hk] at h; injection h
  unfold fil
  rw [List.take_succ_eq_append_getElem hk, hy, List.set_append_right _ _ (by rw [List.length_take]; omega), List.length_take, Nat.min_eq_left (by omega), Nat.sub_self]
  rw [show L.length - k = (L.length - (k + 1)) + 1 by omega, List.replicate_succ, List.set_cons_zero, List.append_assoc]
  rfl
theorem fil_bs (L : List Int) (k : Nat) (y : Int) (h : L[k]? = some y) : (bs (fil L k 0)).toArray.setIfInBounds k (.int .u8 y) = (bs (fil L (k + 1) 0)).toArray := by
  apply Array.toList_inj.1
  rw [← fil_set L k 0 y h]
  simp [bs, List.map_set]
theorem size22 : (Try.prog.info? 22).map (·.size) = some 32 := by kernel_rfl
theorem bs_all (l : List Int) : ((bs l).toArray.all (·.oneCell')) = true := Array.all_eq_true_iff_forall_mem.2 (fun v hv => bs_one l v (by simpa using hv))

/-- The bytes of a number, as an array. -/
def by32 (v : Int) : Value := .agg (bs (lb 32 v)).toArray

theorem byte_low (a q : Int) (m : Nat) (hm : m < 8) : a / 256 ^ m % 256 = (a + 18446744073709551616 * q) / 256 ^ m % 256 := by
  obtain ⟨r, hr⟩ : ∃ r : Int, (18446744073709551616 : Int) = 256 ^ m * (256 * r) := by
    have : m = 0 ∨ m = 1 ∨ m = 2 ∨ m = 3 ∨ m = 4 ∨ m = 5 ∨ m = 6 ∨ m = 7 := by omega
    rcases this with rfl | rfl | rfl | rfl | rfl | rfl | rfl | rfl
    · exact ⟨72057594037927936, by decide⟩
    · exact ⟨281474976710656, by decide⟩
    · exact ⟨1099511627776, by decide⟩
    · exact ⟨4294967296, by decide⟩
    · exact ⟨16777216, by decide⟩
    · exact ⟨65536, by decide⟩
    · exact ⟨256, by decide⟩
    · exact ⟨1, by decide⟩
  rw [hr, Int.mul_assoc, Int.add_mul_ediv_left _ _ (by have := (p256_bd m hm).1; omega), Int.mul_assoc, Int.add_mul_emod_self_left]

set_option maxHeartbeats 2000000 in
theorem ebytes_is (v : Int) (w : World) (hv : El v) :
    Calls Try.prog 23 #[el v] w fun e w' => e = .returned (by32 v) ∧ Fr (fun _ => False) w w' := by
  obtain ⟨a0, a1, a2, a3, he, ha0, ha1, ha2, ha3, hw⟩ := el_words hv.1 hv.2
  obtain ⟨L, hL⟩ : ∃ L, L = lb 32 v := ⟨_, rfl⟩
  have hlen : Hid (L.length = 32) := by show _ = _; rw [hL, lb_length]
  have HL : Hid (L = lb 32 v) := hL
  have hz : ∀ W : World, (zeroValue 22).run Try.prog W = .ok (.agg (bs (fil L 0 0)).toArray) W := fun W => by
    rw [fil_zero, hlen.out]
    kernel_rfl
  clear hL
  rw [he]
  clear he
  go_enter Try.func23, Try.ntmps23
  go_wp2
  go_loopw [4, 5] (fun u i wr => ∃ k : Nat, i = .int .i64 k ∧ k ≤ 32 ∧
      Hid (wr.heap[w.heap.size]? = some (.cells #[.int .u64 a0, .int .u64 a1, .int .u64 a2, .int .u64 a3] 37 (0, 0))) ∧ Hid (wr.heap[w.heap.size + 1]? = some (.cells (bs (fil L 0 0)).toArray 22 (0, 0))) ∧
      Hid (wr.heap[w.heap.size + 1 + 1]? = some (.cells (bs (fil L k 0)).toArray 22 (0, 0))) ∧ Hid (Fr (fun _ => False) w wr))
    (fun _ i _ => 32 - (intOf i).toNat)
  case atStart =>
    obtain ⟨e1, e2, e3⟩ := alloc3 w (.cells #[.int .u64 a0, .int .u64 a1, .int .u64 a2, .int .u64 a3] 37) (.cells (bs (fil L 0 0)).toArray 22) (.cells (bs (fil L 0 0)).toArray 22)
    exact ⟨0, rfl, by omega, e1, e2, e3, (((Fr.refl _ _).alloc _).alloc _).alloc _⟩
  case round =>
    obtain ⟨k, rfl, hk, hB, hR, hN, hF⟩ := hrel
    by_cases hlt : k < 32
    · obtain ⟨b, hbk⟩ : ∃ b, L[k]? = some b := ⟨_, List.getElem?_eq_getElem (by rw [hlen.out]; exact hlt)⟩
      have hbe : Hid (b = v / 256 ^ k % 256) := by
        have hx := hbk
        rw [HL.out] at hx
        rw [List.getElem?_eq_getElem (by rw [lb_length]; exact hlt), lb_get 32 v k hlt] at hx
        injection hx with hx
        exact hx.symm
      have HB := Lib.hid hbk
      obtain ⟨m, hm⟩ : ∃ m : Nat, k % 8 = m := ⟨_, rfl⟩
      have hmm : ((k : Int) % 8) = m := by omega
      have hm8 : m < 8 := by omega
      have HM := Lib.hid hm
      clear hbk hm
      have hcn : ∃ z, wr.cell? ⟨w.heap.size + 1 + 1, k, none⟩ = some z := by
        rw [cell_of_row wr _ k _ _ _ hN.out]
        exact ⟨_, Array.getElem?_eq_getElem (by simp [bs, fil_length L k 0 (by rw [hlen.out]; exact hk), hlen.out]; exact hlt)⟩
      obtain ⟨z, hcn⟩ := hcn
      have hfn : wr.frozen? ⟨w.heap.size + 1 + 1, k, none⟩ = false := frozen_of_row _ _ _ _ _ hN.out
      have hj : (k : Int) / 8 = 0 ∨ (k : Int) / 8 = 1 ∨ (k : Int) / 8 = 2 ∨ (k : Int) / 8 = 3 := by omega
      rcases hj with hj | hj | hj | hj
      · have hcw : wr.cell? ⟨w.heap.size, 0, none⟩ = some (.int .u64 a0) := by rw [cell_of_row wr _ 0 _ _ _ hB.out]; rfl
        have hx : IntKind.u8.wrap (a0 / 2 ^ (8 * m)) = b := by
          have hkm : k = 8 * 0 + m := by have := HM.out; omega
          have ek : (256 : Int) ^ k = 1 * 256 ^ m := by
            rw [hkm, Int.pow_add]
            rfl
          rw [IntKind.wrap_u8, p2_256, hbe.out, ek, ← Int.ediv_ediv_of_nonneg (by decide), hw.out]
          have hd : wv a0 a1 a2 a3 / 1 = a0 + 18446744073709551616 * (a1 + a2 * 18446744073709551616 + a3 * 340282366920938463463374607431768211456) := by
            unfold Wd at ha0 ha1 ha2
            unfold wv
            omega
          rw [hd]
          exact byte_low _ _ m hm8
        go_wp2
        go_roundw
        case rel =>
          refine ⟨k + 1, by go_num, by omega, ?_, ?_, ?_, Fr.setCell hF.out _ (.inr (by simp; omega))⟩
          · exact (heap_setCell_other _ _ _ _ (by simp; omega)).trans hB.out
          · exact (heap_setCell_other _ _ _ _ (by simp)).trans hR.out
          · exact (heap_setCell_same _ _ _ _ _ _ hN.out).trans (by rw [fil_bs L k b HB.out])
        case measure => simp [intOf]; omega
      · have hcw : wr.cell? ⟨w.heap.size, 1, none⟩ = some (.int .u64 a1) := by rw [cell_of_row wr _ 1 _ _ _ hB.out]; rfl
        have hx : IntKind.u8.wrap (a1 / 2 ^ (8 * m)) = b := by
          have hkm : k = 8 * 1 + m := by have := HM.out; omega
          have ek : (256 : Int) ^ k = 18446744073709551616 * 256 ^ m := by
            rw [hkm, Int.pow_add]
            rfl
          rw [IntKind.wrap_u8, p2_256, hbe.out, ek, ← Int.ediv_ediv_of_nonneg (by decide), hw.out]
          have hd : wv a0 a1 a2 a3 / 18446744073709551616 = a1 + 18446744073709551616 * (a2 + a3 * 18446744073709551616) := by
            unfold Wd at ha0 ha1 ha2
            unfold wv
            omega
          rw [hd]
          exact byte_low _ _ m hm8
        go_wp2
        go_roundw
        case rel =>
          refine ⟨k + 1, by go_num, by omega, ?_, ?_, ?_, Fr.setCell hF.out _ (.inr (by simp; omega))⟩
          · exact (heap_setCell_other _ _ _ _ (by simp; omega)).trans hB.out
          · exact (heap_setCell_other _ _ _ _ (by simp)).trans hR.out
          · exact (heap_setCell_same _ _ _ _ _ _ hN.out).trans (by rw [fil_bs L k b HB.out])
        case measure => simp [intOf]; omega
      · have hcw : wr.cell? ⟨w.heap.size, 2, none⟩ = some (.int .u64 a2) := by rw [cell_of_row wr _ 2 _ _ _ hB.out]; rfl
        have hx : IntKind.u8.wrap (a2 / 2 ^ (8 * m)) = b := by
          have hkm : k = 8 * 2 + m := by have := HM.out; omega
          have ek : (256 : Int) ^ k = 340282366920938463463374607431768211456 * 256 ^ m := by
            rw [hkm, Int.pow_add]
            rfl
          rw [IntKind.wrap_u8, p2_256, hbe.out, ek, ← Int.ediv_ediv_of_nonneg (by decide), hw.out]
          have hd : wv a0 a1 a2 a3 / 340282366920938463463374607431768211456 = a2 + 18446744073709551616 * (a3) := by
            unfold Wd at ha0 ha1 ha2
            unfold wv
            omega
          rw [hd]
          exact byte_low _ _ m hm8
        go_wp2
        go_roundw
        case rel =>
          refine ⟨k + 1, by go_num, by omega, ?_, ?_, ?_, Fr.setCell hF.out _ (.inr (by simp; omega))⟩
          · exact (heap_setCell_other _ _ _ _ (by simp; omega)).trans hB.out
          · exact (heap_setCell_other _ _ _ _ (by simp)).trans hR.out
          · exact (heap_setCell_same _ _ _ _ _ _ hN.out).trans (by rw [fil_bs L k b HB.out])
        case measure => simp [intOf]; omega
      · have hcw : wr.cell? ⟨w.heap.size, 3, none⟩ = some (.int .u64 a3) := by rw [cell_of_row wr _ 3 _ _ _ hB.out]; rfl
        have hx : IntKind.u8.wrap (a3 / 2 ^ (8 * m)) = b := by
          have hkm : k = 8 * 3 + m := by have := HM.out; omega
          have ek : (256 : Int) ^ k = 6277101735386680763835789423207666416102355444464034512896 * 256 ^ m := by
            rw [hkm, Int.pow_add]
            rfl
          rw [IntKind.wrap_u8, p2_256, hbe.out, ek, ← Int.ediv_ediv_of_nonneg (by decide), hw.out]
          have hd : wv a0 a1 a2 a3 / 6277101735386680763835789423207666416102355444464034512896 = a3 + 18446744073709551616 * 0 := by
            unfold Wd at ha0 ha1 ha2
            unfold wv
            omega
          rw [hd]
          exact byte_low _ _ m hm8
        go_wp2
        go_roundw
        case rel =>
          refine ⟨k + 1, by go_num, by omega, ?_, ?_, ?_, Fr.setCell hF.out _ (.inr (by simp; omega))⟩
          · exact (heap_setCell_other _ _ _ _ (by simp; omega)).trans hB.out
          · exact (heap_setCell_other _ _ _ _ (by simp)).trans hR.out
          · exact (heap_setCell_same _ _ _ _ _ _ hN.out).trans (by rw [fil_bs L k b HB.out])
        case measure => simp [intOf]; omega
    · obtain rfl : k = 32 := by omega
      have hN' : Hid (wr.heap[w.heap.size + 1 + 1]? = some (.cells (bs L).toArray 22 (0, 0))) := by
        have := hN.out
        have e := fil_all L (0 : Int)
        rw [hlen.out] at e
        rwa [e] at this
      have hs : (bs L).toArray.size = 32 := by simp [bs, hlen.out]
      have HS1 : Hid ((Try.prog.info? 22).map (·.size) = some (bs L).toArray.size) := by show _ = _; rw [size22, hs]
      have HS2 : Hid ((bs (fil L 0 0)).toArray.size = (bs L).toArray.size) := by show _ = _; simp [bs, fil_length L 0 0 (by omega)]
      clear hs
      go_wp2_with (first
        | refine wpList_load_row rfl 22 (.tmp 3) rfl (w.heap.size + 1 + 1) rfl 22 (bs L).toArray (0, 0) _ hN'.out Try.underlying22 rfl HS1.out ?_
        | refine wpList_store_row rfl 22 (.tmp 2) (.tmp 21) rfl (w.heap.size + 1) (bs L).toArray rfl rfl 22 _ hR.out HS1.out HS2.out (bs_all L) ?_)
      refine bodyPost_ret (results_cell_row Try.results23 _ _ _ 22 _ (0, 0) _ rfl (setRow_heap _ _ _ _ _ _ hR.out) Try.underlying22 rfl HS1.out) rfl ⟨?_, Fr.setRow hF.out _ (.inr (by omega))⟩
      rw [HL.out]
      rfl
end Go.Proofs.Ytbkbodcncjhcmaa
