/- field.Swap: both, swapped or not. Its condition: elements below p. -/
import Derived.Test.YtbkbodcncjhcmaaWordsW
namespace Go.Proofs.Ytbkbodcncjhcmaa
open Go.RowKit

theorem results_two_rows {P : Program} {fn : Func} {p q : Tmp} {ty ty' : TypeId} (h : fn.results = #[.cell p ty, .cell q ty']) (tmps : Array Value) (w : World) (g g' : Nat) (t t' : TypeId) (cs cs' : Array Value) (fr fr' : Nat × Nat) (d d' : TypeDesc)
    (hp : tmps.getD p undef = .pointer (some ⟨g, 0, none⟩)) (hg : w.heap[g]? = some (.cells cs t fr)) (hu : P.underlying ty = some d) (hd : (match d with | .struct _ | .array _ _ => true | _ => false) = true) (hi : (P.info? ty).map (·.size) = some cs.size)
    (hp2 : tmps.getD q undef = .pointer (some ⟨g', 0, none⟩)) (hg' : w.heap[g']? = some (.cells cs' t' fr')) (hu' : P.underlying ty' = some d') (hd' : (match d' with | .struct _ | .array _ _ => true | _ => false) = true) (hi' : (P.info? ty').map (·.size) = some cs'.size) :
    (results fn tmps).run P w = .ok (.tuple #[.agg cs, .agg cs']) w := by
  have k1 : tmps[p]?.getD undef = .pointer (some ⟨g, 0, none⟩) := by simpa using hp
  have k2 : tmps[q]?.getD undef = .pointer (some ⟨g', 0, none⟩) := by simpa using hp2
  simp [results, h, k1, k2, asAddr, run_loadVar_row w g t ty cs fr d hg hu hd hi, run_loadVar_row w g' t' ty' cs' fr' d' hg' hu' hd' hi']
theorem xor_comm64 (a b : Int) : bits .xor .u64 a b = bits .xor .u64 b a := by simp only [bits, BitVec.xor_comm]
theorem B4.drew {w : World} {g : Nat} {a b c d : Int} (h : B4 w g a b c d) : B4 w.drew g a b c d := h
theorem i64_and1 (n : Int) : bits .and .i64 n 1 = n % 2 := by
  have h127 : (BitVec.ofInt 64 1).toNat = 2 ^ 1 - 1 := by decide
  have key : (BitVec.ofInt 64 n &&& BitVec.ofInt 64 1).toNat = (n % ((2 ^ 64 : Nat) : Int)).toNat % 2 ^ 1 := by
    rw [BitVec.toNat_and, BitVec.toNat_ofInt, h127, Nat.and_two_pow_sub_one_eq_mod]
  show IntKind.i64.wrap ((BitVec.ofInt 64 n &&& BitVec.ofInt 64 1).toNat : Nat) = n % 2
  rw [key, IntKind.wrap_i64]
  omega

set_option maxHeartbeats 4000000 in
theorem swap_yes {u v a0 a1 a2 a3 b0 b1 b2 b3 : Int} (bit : Int) (w : World) (hA : Ws u a0 a1 a2 a3) (hB : Ws v b0 b1 b2 b3) (hb : bit % 2 = 1) :
    Calls Try.prog 49 #[el u, el v, .int .i64 bit] w fun e w' => e = .returned (.tuple #[.agg #[.int .u64 b0, .int .u64 b1, .int .u64 b2, .int .u64 b3], .agg #[.int .u64 a0, .int .u64 a1, .int .u64 a2, .int .u64 a3]]) ∧ Fr (fun _ => False) w w' := by
  have wa : Wd a0 ∧ Wd a1 ∧ Wd a2 ∧ Wd a3 := by
    obtain ⟨a, b, c, d, he, ha, hb, hc, hd, -⟩ := el_words hA.el.1 hA.el.2
    have := he.symm.trans hA.eq
    simp only [Value.agg.injEq, Array.mk.injEq, List.cons.injEq, Value.int.injEq, true_and, and_true] at this
    obtain ⟨rfl, rfl, rfl, rfl⟩ := this
    exact ⟨ha, hb, hc, hd.1, by omega⟩
  have wb : Wd b0 ∧ Wd b1 ∧ Wd b2 ∧ Wd b3 := by
    obtain ⟨a, b, c, d, he, ha, hb, hc, hd, -⟩ := el_words hB.el.1 hB.el.2
    have := he.symm.trans hB.eq
    simp only [Value.agg.injEq, Array.mk.injEq, List.cons.injEq, Value.int.injEq, true_and, and_true] at this
    obtain ⟨rfl, rfl, rfl, rfl⟩ := this
    exact ⟨ha, hb, hc, hd.1, by omega⟩
  obtain ⟨wa0, wa1, wa2, wa3⟩ := wa
  obtain ⟨wb0, wb1, wb2, wb3⟩ := wb
  have s0 := sel_yes a0 b0 wa0 wb0
  have r0 := sel_yes b0 a0 wb0 wa0
  rw [xor_comm64 b0 a0] at r0
  have s1 := sel_yes a1 b1 wa1 wb1
  have r1 := sel_yes b1 a1 wb1 wa1
  rw [xor_comm64 b1 a1] at r1
  have s2 := sel_yes a2 b2 wa2 wb2
  have r2 := sel_yes b2 a2 wb2 wa2
  rw [xor_comm64 b2 a2] at r2
  have s3 := sel_yes a3 b3 wa3 wb3
  have r3 := sel_yes b3 a3 wb3 wa3
  rw [xor_comm64 b3 a3] at r3
  have ha1 := i64_and1 bit
  rw [hb] at ha1
  have hw1 : IntKind.u64.wrap (-1) = 18446744073709551615 := by decide
  rw [hA.eq, hB.eq]
  clear hA hB wa0 wa1 wa2 wa3 wb0 wb1 wb2 wb3 hb
  go_enter Try.func49, Try.ntmps49
  go_wp2
  go_loopw [9, 10, 15] (fun u9 u10 u15 wr => ∃ i : Nat, u15 = .int .i64 i ∧ i ≤ 4 ∧ Hid (B4 wr w.heap.size (if 0 < i then b0 else a0) (if 1 < i then b1 else a1) (if 2 < i then b2 else a2) (if 3 < i then b3 else a3)) ∧ Hid (B4 wr (w.heap.size + 1) (if 0 < i then a0 else b0) (if 1 < i then a1 else b1) (if 2 < i then a2 else b2) (if 3 < i then a3 else b3)) ∧
      Hid (B4 wr (w.heap.size + 1 + 1) 0 0 0 0) ∧ Hid (B4 wr (w.heap.size + 1 + 1 + 1) 0 0 0 0) ∧ Hid (Fr (fun _ => False) w wr))
    (fun _ _ u15 _ => 4 - (intOf u15).toNat)
  case atStart =>
    have e := alloc4 w (.cells #[.int .u64 a0, .int .u64 a1, .int .u64 a2, .int .u64 a3] 37) (.cells #[.int .u64 b0, .int .u64 b1, .int .u64 b2, .int .u64 b3] 37) (.cells #[.int .u64 0, .int .u64 0, .int .u64 0, .int .u64 0] 37) (.cells #[.int .u64 0, .int .u64 0, .int .u64 0, .int .u64 0] 37)
    exact ⟨0, rfl, by omega, e.1, e.2.1, e.2.2.1, e.2.2.2, ((((Fr.refl _ _).alloc _).alloc _).alloc _).alloc _⟩
  case round =>
    obtain ⟨i, rfl, hi, hA, hB, hR, hS, hF⟩ := hrel
    have hc : i = 0 ∨ i = 1 ∨ i = 2 ∨ i = 3 ∨ i = 4 := by omega
    rcases hc with rfl | rfl | rfl | rfl | rfl
    · have hA' : Hid (B4 wr w.heap.size a0 a1 a2 a3) := hA.out
      have hB' : Hid (B4 wr (w.heap.size + 1) b0 b1 b2 b3) := hB.out
      clear hA hB
      have ca := hA'.out.c0
      have cb := hB'.out.c0
      have fa := hA'.out.fz
      have fb := hB'.out.fz
      go_wp2
      go_quiet (fail)
      go_wp2
      go_roundw
      case rel =>
        refine ⟨1, by simp, by omega, ?_, ?_, ?_, ?_, ?_⟩
        · exact (heap_setCell_other _ _ _ _ (by simp)).trans (heap_setCell_same _ _ _ _ _ _ hA'.out)
        · exact heap_setCell_same _ _ _ _ _ _ ((heap_setCell_other _ _ _ _ (by simp)).trans hB'.out)
        · exact (heap_setCell_other _ _ _ _ (by simp <;> omega)).trans ((heap_setCell_other _ _ _ _ (by simp <;> omega)).trans hR.out)
        · exact (heap_setCell_other _ _ _ _ (by simp <;> omega)).trans ((heap_setCell_other _ _ _ _ (by simp <;> omega)).trans hS.out)
        · exact ((hF.out.drewN _).setCell _ (.inr (by simp))).setCell _ (.inr (by simp <;> omega))
      case measure => simp [intOf]
    · have hA' : Hid (B4 wr w.heap.size b0 a1 a2 a3) := hA.out
      have hB' : Hid (B4 wr (w.heap.size + 1) a0 b1 b2 b3) := hB.out
      clear hA hB
      have ca := hA'.out.c1
      have cb := hB'.out.c1
      have fa := hA'.out.fz
      have fb := hB'.out.fz
      go_wp2
      go_quiet (fail)
      go_wp2
      go_roundw
      case rel =>
        refine ⟨2, by simp, by omega, ?_, ?_, ?_, ?_, ?_⟩
        · exact (heap_setCell_other _ _ _ _ (by simp)).trans (heap_setCell_same _ _ _ _ _ _ hA'.out)
        · exact heap_setCell_same _ _ _ _ _ _ ((heap_setCell_other _ _ _ _ (by simp)).trans hB'.out)
        · exact (heap_setCell_other _ _ _ _ (by simp <;> omega)).trans ((heap_setCell_other _ _ _ _ (by simp <;> omega)).trans hR.out)
        · exact (heap_setCell_other _ _ _ _ (by simp <;> omega)).trans ((heap_setCell_other _ _ _ _ (by simp <;> omega)).trans hS.out)
        · exact ((hF.out.drewN _).setCell _ (.inr (by simp))).setCell _ (.inr (by simp <;> omega))
      case measure => simp [intOf]
    · have hA' : Hid (B4 wr w.heap.size b0 b1 a2 a3) := hA.out
      have hB' : Hid (B4 wr (w.heap.size + 1) a0 a1 b2 b3) := hB.out
      clear hA hB
      have ca := hA'.out.c2
      have cb := hB'.out.c2
      have fa := hA'.out.fz
      have fb := hB'.out.fz
      go_wp2
      go_quiet (fail)
      go_wp2
      go_roundw
      case rel =>
        refine ⟨3, by simp, by omega, ?_, ?_, ?_, ?_, ?_⟩
        · exact (heap_setCell_other _ _ _ _ (by simp)).trans (heap_setCell_same _ _ _ _ _ _ hA'.out)
        · exact heap_setCell_same _ _ _ _ _ _ ((heap_setCell_other _ _ _ _ (by simp)).trans hB'.out)
        · exact (heap_setCell_other _ _ _ _ (by simp <;> omega)).trans ((heap_setCell_other _ _ _ _ (by simp <;> omega)).trans hR.out)
        · exact (heap_setCell_other _ _ _ _ (by simp <;> omega)).trans ((heap_setCell_other _ _ _ _ (by simp <;> omega)).trans hS.out)
        · exact ((hF.out.drewN _).setCell _ (.inr (by simp))).setCell _ (.inr (by simp <;> omega))
      case measure => simp [intOf]
    · have hA' : Hid (B4 wr w.heap.size b0 b1 b2 a3) := hA.out
      have hB' : Hid (B4 wr (w.heap.size + 1) a0 a1 a2 b3) := hB.out
      clear hA hB
      have ca := hA'.out.c3
      have cb := hB'.out.c3
      have fa := hA'.out.fz
      have fb := hB'.out.fz
      go_wp2
      go_quiet (fail)
      go_wp2
      go_roundw
      case rel =>
        refine ⟨4, by simp, by omega, ?_, ?_, ?_, ?_, ?_⟩
        · exact (heap_setCell_other _ _ _ _ (by simp)).trans (heap_setCell_same _ _ _ _ _ _ hA'.out)
        · exact heap_setCell_same _ _ _ _ _ _ ((heap_setCell_other _ _ _ _ (by simp)).trans hB'.out)
        · exact (heap_setCell_other _ _ _ _ (by simp <;> omega)).trans ((heap_setCell_other _ _ _ _ (by simp <;> omega)).trans hR.out)
        · exact (heap_setCell_other _ _ _ _ (by simp <;> omega)).trans ((heap_setCell_other _ _ _ _ (by simp <;> omega)).trans hS.out)
        · exact ((hF.out.drewN _).setCell _ (.inr (by simp))).setCell _ (.inr (by simp <;> omega))
      case measure => simp [intOf]
    · have hA' : Hid (B4 wr w.heap.size b0 b1 b2 b3) := hA.out
      have hB' : Hid (B4 wr (w.heap.size + 1) a0 a1 a2 a3) := hB.out
      clear hA hB
      have ca0 := hA'.out.c0
      have ca1 := hA'.out.c1
      have ca2 := hA'.out.c2
      have ca3 := hA'.out.c3
      have cb0 := hB'.out.c0
      have cb1 := hB'.out.c1
      have cb2 := hB'.out.c2
      have cb3 := hB'.out.c3
      have cr0 := hR.out.c0
      have cr1 := hR.out.c1
      have cr2 := hR.out.c2
      have cr3 := hR.out.c3
      have fr := hR.out.fz
      have cs0 := hS.out.c0
      have cs1 := hS.out.c1
      have cs2 := hS.out.c2
      have cs3 := hS.out.c3
      have fs := hS.out.fz
      go_wp2
      go_region
      all_goals
        go_wp2
        have R1 := ((hR.out.set b0 b1 b2 b3).far (q := w.heap.size + 1 + 1 + 1) (by omega) (.int .u64 a0) (.int .u64 a1) (.int .u64 a2) (.int .u64 a3)).drew
        have S1 := ((hS.out.far (q := w.heap.size + 1 + 1) (by omega) (.int .u64 b0) (.int .u64 b1) (.int .u64 b2) (.int .u64 b3)).set a0 a1 a2 a3).drew
        have F1 := ((hF.out.set4 (.int .u64 b0) (.int .u64 b1) (.int .u64 b2) (.int .u64 b3) (show w.heap.size ≤ w.heap.size + 1 + 1 by omega)).set4 (.int .u64 a0) (.int .u64 a1) (.int .u64 a2) (.int .u64 a3) (show w.heap.size ≤ w.heap.size + 1 + 1 + 1 by omega)).drew
        exact bodyPost_ret (results_two_rows Try.results49 _ _ (w.heap.size + 1 + 1) (w.heap.size + 1 + 1 + 1) 37 37 #[.int .u64 b0, .int .u64 b1, .int .u64 b2, .int .u64 b3] #[.int .u64 a0, .int .u64 a1, .int .u64 a2, .int .u64 a3] (0, 0) (0, 0) _ _ rfl R1 Try.underlying37 rfl size28 rfl S1 Try.underlying37 rfl size28) rfl ⟨rfl, F1⟩

set_option maxHeartbeats 4000000 in
theorem swap_no {u v a0 a1 a2 a3 b0 b1 b2 b3 : Int} (bit : Int) (w : World) (hA : Ws u a0 a1 a2 a3) (hB : Ws v b0 b1 b2 b3) (hb : bit % 2 = 0) :
    Calls Try.prog 49 #[el u, el v, .int .i64 bit] w fun e w' => e = .returned (.tuple #[.agg #[.int .u64 a0, .int .u64 a1, .int .u64 a2, .int .u64 a3], .agg #[.int .u64 b0, .int .u64 b1, .int .u64 b2, .int .u64 b3]]) ∧ Fr (fun _ => False) w w' := by
  have wa : Wd a0 ∧ Wd a1 ∧ Wd a2 ∧ Wd a3 := by
    obtain ⟨a, b, c, d, he, ha, hb, hc, hd, -⟩ := el_words hA.el.1 hA.el.2
    have := he.symm.trans hA.eq
    simp only [Value.agg.injEq, Array.mk.injEq, List.cons.injEq, Value.int.injEq, true_and, and_true] at this
    obtain ⟨rfl, rfl, rfl, rfl⟩ := this
    exact ⟨ha, hb, hc, hd.1, by omega⟩
  have wb : Wd b0 ∧ Wd b1 ∧ Wd b2 ∧ Wd b3 := by
    obtain ⟨a, b, c, d, he, ha, hb, hc, hd, -⟩ := el_words hB.el.1 hB.el.2
    have := he.symm.trans hB.eq
    simp only [Value.agg.injEq, Array.mk.injEq, List.cons.injEq, Value.int.injEq, true_and, and_true] at this
    obtain ⟨rfl, rfl, rfl, rfl⟩ := this
    exact ⟨ha, hb, hc, hd.1, by omega⟩
  obtain ⟨wa0, wa1, wa2, wa3⟩ := wa
  obtain ⟨wb0, wb1, wb2, wb3⟩ := wb
  have s0 := sel_no a0 b0 wa0 wb0
  have r0 := sel_no b0 a0 wb0 wa0
  rw [xor_comm64 b0 a0] at r0
  have s1 := sel_no a1 b1 wa1 wb1
  have r1 := sel_no b1 a1 wb1 wa1
  rw [xor_comm64 b1 a1] at r1
  have s2 := sel_no a2 b2 wa2 wb2
  have r2 := sel_no b2 a2 wb2 wa2
  rw [xor_comm64 b2 a2] at r2
  have s3 := sel_no a3 b3 wa3 wb3
  have r3 := sel_no b3 a3 wb3 wa3
  rw [xor_comm64 b3 a3] at r3
  have ha1 := i64_and1 bit
  rw [hb] at ha1
  have hw1 : IntKind.u64.wrap (-1) = 18446744073709551615 := by decide
  rw [hA.eq, hB.eq]
  clear hA hB wa0 wa1 wa2 wa3 wb0 wb1 wb2 wb3 hb
  go_enter Try.func49, Try.ntmps49
  go_wp2
  go_loopw [9, 10, 15] (fun u9 u10 u15 wr => ∃ i : Nat, u15 = .int .i64 i ∧ i ≤ 4 ∧ Hid (B4 wr w.heap.size (if 0 < i then a0 else a0) (if 1 < i then a1 else a1) (if 2 < i then a2 else a2) (if 3 < i then a3 else a3)) ∧ Hid (B4 wr (w.heap.size + 1) (if 0 < i then b0 else b0) (if 1 < i then b1 else b1) (if 2 < i then b2 else b2) (if 3 < i then b3 else b3)) ∧
      Hid (B4 wr (w.heap.size + 1 + 1) 0 0 0 0) ∧ Hid (B4 wr (w.heap.size + 1 + 1 + 1) 0 0 0 0) ∧ Hid (Fr (fun _ => False) w wr))
    (fun _ _ u15 _ => 4 - (intOf u15).toNat)
  case atStart =>
    have e := alloc4 w (.cells #[.int .u64 a0, .int .u64 a1, .int .u64 a2, .int .u64 a3] 37) (.cells #[.int .u64 b0, .int .u64 b1, .int .u64 b2, .int .u64 b3] 37) (.cells #[.int .u64 0, .int .u64 0, .int .u64 0, .int .u64 0] 37) (.cells #[.int .u64 0, .int .u64 0, .int .u64 0, .int .u64 0] 37)
    exact ⟨0, rfl, by omega, e.1, e.2.1, e.2.2.1, e.2.2.2, ((((Fr.refl _ _).alloc _).alloc _).alloc _).alloc _⟩
  case round =>
    obtain ⟨i, rfl, hi, hA, hB, hR, hS, hF⟩ := hrel
    have hc : i = 0 ∨ i = 1 ∨ i = 2 ∨ i = 3 ∨ i = 4 := by omega
    rcases hc with rfl | rfl | rfl | rfl | rfl
    · have hA' : Hid (B4 wr w.heap.size a0 a1 a2 a3) := hA.out
      have hB' : Hid (B4 wr (w.heap.size + 1) b0 b1 b2 b3) := hB.out
      clear hA hB
      have ca := hA'.out.c0
      have cb := hB'.out.c0
      have fa := hA'.out.fz
      have fb := hB'.out.fz
      go_wp2
      go_quiet (fail)
      go_wp2
      go_roundw
      case rel =>
        refine ⟨1, by simp, by omega, ?_, ?_, ?_, ?_, ?_⟩
        · exact (heap_setCell_other _ _ _ _ (by simp)).trans (heap_setCell_same _ _ _ _ _ _ hA'.out)
        · exact heap_setCell_same _ _ _ _ _ _ ((heap_setCell_other _ _ _ _ (by simp)).trans hB'.out)
        · exact (heap_setCell_other _ _ _ _ (by simp <;> omega)).trans ((heap_setCell_other _ _ _ _ (by simp <;> omega)).trans hR.out)
        · exact (heap_setCell_other _ _ _ _ (by simp <;> omega)).trans ((heap_setCell_other _ _ _ _ (by simp <;> omega)).trans hS.out)
        · exact ((hF.out.drewN _).setCell _ (.inr (by simp))).setCell _ (.inr (by simp <;> omega))
      case measure => simp [intOf]
    · have hA' : Hid (B4 wr w.heap.size a0 a1 a2 a3) := hA.out
      have hB' : Hid (B4 wr (w.heap.size + 1) b0 b1 b2 b3) := hB.out
      clear hA hB
      have ca := hA'.out.c1
      have cb := hB'.out.c1
      have fa := hA'.out.fz
      have fb := hB'.out.fz
      go_wp2
      go_quiet (fail)
      go_wp2
      go_roundw
      case rel =>
        refine ⟨2, by simp, by omega, ?_, ?_, ?_, ?_, ?_⟩
        · exact (heap_setCell_other _ _ _ _ (by simp)).trans (heap_setCell_same _ _ _ _ _ _ hA'.out)
        · exact heap_setCell_same _ _ _ _ _ _ ((heap_setCell_other _ _ _ _ (by simp)).trans hB'.out)
        · exact (heap_setCell_other _ _ _ _ (by simp <;> omega)).trans ((heap_setCell_other _ _ _ _ (by simp <;> omega)).trans hR.out)
        · exact (heap_setCell_other _ _ _ _ (by simp <;> omega)).trans ((heap_setCell_other _ _ _ _ (by simp <;> omega)).trans hS.out)
        · exact ((hF.out.drewN _).setCell _ (.inr (by simp))).setCell _ (.inr (by simp <;> omega))
      case measure => simp [intOf]
    · have hA' : Hid (B4 wr w.heap.size a0 a1 a2 a3) := hA.out
      have hB' : Hid (B4 wr (w.heap.size + 1) b0 b1 b2 b3) := hB.out
      clear hA hB
      have ca := hA'.out.c2
      have cb := hB'.out.c2
      have fa := hA'.out.fz
      have fb := hB'.out.fz
      go_wp2
      go_quiet (fail)
      go_wp2
      go_roundw
      case rel =>
        refine ⟨3, by simp, by omega, ?_, ?_, ?_, ?_, ?_⟩
        · exact (heap_setCell_other _ _ _ _ (by simp)).trans (heap_setCell_same _ _ _ _ _ _ hA'.out)
        · exact heap_setCell_same _ _ _ _ _ _ ((heap_setCell_other _ _ _ _ (by simp)).trans hB'.out)
        · exact (heap_setCell_other _ _ _ _ (by simp <;> omega)).trans ((heap_setCell_other _ _ _ _ (by simp <;> omega)).trans hR.out)
        · exact (heap_setCell_other _ _ _ _ (by simp <;> omega)).trans ((heap_setCell_other _ _ _ _ (by simp <;> omega)).trans hS.out)
        · exact ((hF.out.drewN _).setCell _ (.inr (by simp))).setCell _ (.inr (by simp <;> omega))
      case measure => simp [intOf]
    · have hA' : Hid (B4 wr w.heap.size a0 a1 a2 a3) := hA.out
      have hB' : Hid (B4 wr (w.heap.size + 1) b0 b1 b2 b3) := hB.out
      clear hA hB
      have ca := hA'.out.c3
      have cb := hB'.out.c3
      have fa := hA'.out.fz
      have fb := hB'.out.fz
      go_wp2
      go_quiet (fail)
      go_wp2
      go_roundw
      case rel =>
        refine ⟨4, by simp, by omega, ?_, ?_, ?_, ?_, ?_⟩
        · exact (heap_setCell_other _ _ _ _ (by simp)).trans (heap_setCell_same _ _ _ _ _ _ hA'.out)
        · exact heap_setCell_same _ _ _ _ _ _ ((heap_setCell_other _ _ _ _ (by simp)).trans hB'.out)
        · exact (heap_setCell_other _ _ _ _ (by simp <;> omega)).trans ((heap_setCell_other _ _ _ _ (by simp <;> omega)).trans hR.out)
        · exact (heap_setCell_other _ _ _ _ (by simp <;> omega)).trans ((heap_setCell_other _ _ _ _ (by simp <;> omega)).trans hS.out)
        · exact ((hF.out.drewN _).setCell _ (.inr (by simp))).setCell _ (.inr (by simp <;> omega))
      case measure => simp [intOf]
    · have hA' : Hid (B4 wr w.heap.size a0 a1 a2 a3) := hA.out
      have hB' : Hid (B4 wr (w.heap.size + 1) b0 b1 b2 b3) := hB.out
      clear hA hB
      have ca0 := hA'.out.c0
      have ca1 := hA'.out.c1
      have ca2 := hA'.out.c2
      have ca3 := hA'.out.c3
      have cb0 := hB'.out.c0
      have cb1 := hB'.out.c1
      have cb2 := hB'.out.c2
      have cb3 := hB'.out.c3
      have cr0 := hR.out.c0
      have cr1 := hR.out.c1
      have cr2 := hR.out.c2
      have cr3 := hR.out.c3
      have fr := hR.out.fz
      have cs0 := hS.out.c0
      have cs1 := hS.out.c1
      have cs2 := hS.out.c2
      have cs3 := hS.out.c3
      have fs := hS.out.fz
      go_wp2
      go_region
      all_goals
        go_wp2
        have R1 := ((hR.out.set a0 a1 a2 a3).far (q := w.heap.size + 1 + 1 + 1) (by omega) (.int .u64 b0) (.int .u64 b1) (.int .u64 b2) (.int .u64 b3)).drew
        have S1 := ((hS.out.far (q := w.heap.size + 1 + 1) (by omega) (.int .u64 a0) (.int .u64 a1) (.int .u64 a2) (.int .u64 a3)).set b0 b1 b2 b3).drew
        have F1 := ((hF.out.set4 (.int .u64 a0) (.int .u64 a1) (.int .u64 a2) (.int .u64 a3) (show w.heap.size ≤ w.heap.size + 1 + 1 by omega)).set4 (.int .u64 b0) (.int .u64 b1) (.int .u64 b2) (.int .u64 b3) (show w.heap.size ≤ w.heap.size + 1 + 1 + 1 by omega)).drew
        exact bodyPost_ret (results_two_rows Try.results49 _ _ (w.heap.size + 1 + 1) (w.heap.size + 1 + 1 + 1) 37 37 #[.int .u64 a0, .int .u64 a1, .int .u64 a2, .int .u64 a3] #[.int .u64 b0, .int .u64 b1, .int .u64 b2, .int .u64 b3] (0, 0) (0, 0) _ _ rfl R1 Try.underlying37 rfl size28 rfl S1 Try.underlying37 rfl size28) rfl ⟨rfl, F1⟩
end Go.Proofs.Ytbkbodcncjhcmaa
