/- poly.New: contract. Conditions: a key of 32 bytes. -/
import Derived.Test.YtbafppdmlhogbaaWr
namespace Go.Proofs.Ytbafppdmlhogbaa
set_option linter.unusedSimpArgs false
set_option linter.unusedVariables false
open Go.RowKit

theorem calm1b {w : World} {A : Obj} {W0 : World} (h : w.alloc A = W0) : W0.heap[w.heap.size]? = some A ∧ Fr (fun _ => False) w W0 := by
  subst h
  exact ⟨heap_alloc_new w A, (Fr.refl _ _).alloc _⟩
set_option maxRecDepth 100000 in
set_option maxHeartbeats 8000000 in
theorem new_is (k : List Int) (w : World) (hk : k.length = 32) (hb : Bys k) :
    Calls Try.prog 24 #[.agg (vs .u8 k)] w fun e w' => ∃ g, w.heap.size ≤ g ∧ e = .returned (.pointer (some ⟨g, 0, none⟩)) ∧ PolyAt w' g k [] ∧ Fr (fun _ => False) w w' := by
  obtain ⟨K0, hK0⟩ : ∃ K, K = k.take 16 := ⟨_, rfl⟩
  obtain ⟨K1, hK1⟩ : ∃ K, K = k.drop 16 := ⟨_, rfl⟩
  obtain ⟨K2, hK2⟩ : ∃ K, K = clr K0 := ⟨_, rfl⟩
  have l0 : K0.length = 16 := by rw [hK0, List.length_take, hk]; rfl
  have l1 : K1.length = 16 := by rw [hK1, List.length_drop, hk]
  have l2 : K2.length = 16 := by rw [hK2]; exact clr_length l0
  have y0 : Bys K0 := by rw [hK0]; exact hb.take 16
  have y1 : Bys K1 := by rw [hK1]; exact hb.drop 16
  have y2 : Bys K2 := by rw [hK2]; exact clr_bys l0 y0
  have C1 : ∀ W, Calls Try.prog 36 #[.agg (vs .u8 K0)] W fun e w' => e = .returned (.agg (vs .u8 K2)) ∧ Fr (fun _ => False) W w' := fun W => by rw [hK2]; exact cleared_is K0 W l0 y0
  have C2 : ∀ W, Calls Try.prog 35 #[.agg (vs .u8 K2)] W fun e w' => e = .returned (.agg (vs .u64 [R0 k, R1 k, R2 k])) ∧ Fr (fun _ => False) W w' := fun W => by
    have h := numberOf_is K2 W l2 y2
    rw [hK2, hK0] at h ⊢
    exact h
  have C3 : ∀ W, Calls Try.prog 37 #[.agg (vs .u8 K1)] W fun e w' => e = .returned (.agg (vs .u64 [S0 k, S1 k])) ∧ Fr (fun _ => False) W w' := fun W => by
    have h := words_is K1 W l1 y1
    rw [hK1] at h ⊢
    exact h
  have s0 : Hid ((Try.prog.info? 38).map (·.size) = some K0.length) := by show _ = _; rw [l0]; exact info26
  have s1 : Hid ((Try.prog.info? 38).map (·.size) = some K1.length) := by show _ = _; rw [l1]; exact info26
  have L0 := Lib.hid l0
  have L1 := Lib.hid l1
  have HK0 := Lib.hid hK0
  have HK1 := Lib.hid hK1
  clear hk hb hK0 hK1 hK2 l0 l1 l2 y0 y1 y2
  obtain ⟨r0, hr0⟩ : ∃ r, r = R0 k := ⟨_, rfl⟩
  obtain ⟨r1, hr1⟩ : ∃ r, r = R1 k := ⟨_, rfl⟩
  obtain ⟨r2, hr2⟩ : ∃ r, r = R2 k := ⟨_, rfl⟩
  obtain ⟨t0, ht0⟩ : ∃ r, r = S0 k := ⟨_, rfl⟩
  obtain ⟨t1, ht1⟩ : ∃ r, r = S1 k := ⟨_, rfl⟩
  rw [← hr0, ← hr1, ← hr2] at C2
  rw [← ht0, ← ht1] at C3
  have HR := Lib.hid (And.intro hr0 (And.intro hr1 (And.intro hr2 (And.intro ht0 ht1))))
  clear hr0 hr1 hr2 ht0 ht1
  go_enter Try.func24, Try.ntmps24
  go_upto_region 1 with (fail)
  generalize hW : w.alloc (.cells (vs .u8 k) 28) = W0
  have HW := Lib.hid (calm1b hW)
  have X0 : Hid (Ar W0 w.heap.size 28 .u8 k) := HW.out.1
  have F0 : Hid (Fr (fun _ => False) w W0) := HW.out.2
  clear hW HW
  refine wp_region_inv2 (fun b a w' => ∃ g3 g4 : Nat, Fr (fun _ => False) W0 w' ∧ (b 6 = true → W0.heap.size ≤ g3 ∧ w'.heap[g3]? = some (.cells (if b 8 = true then vs .u8 K0 else vs .u8 (List.replicate 16 0)) 38 (0, 0))) ∧ (b 7 = true → W0.heap.size ≤ g4 ∧ w'.heap[g4]? = some (.cells (if b 9 = true then vs .u8 K1 else vs .u8 (List.replicate 16 0)) 38 (0, 0))) ∧ (b 6 = true → b 7 = true → g3 ≠ g4) ∧ (b 8 = true → b 6 = true) ∧ (b 9 = true → b 7 = true) ∧ a = ⟨#[.agg (vs .u8 k), .pointer (some ⟨w.heap.size, 0, none⟩), .pointer none, if b 6 = true then .pointer (some ⟨g3, 0, none⟩) else undef, if b 7 = true then .pointer (some ⟨g4, 0, none⟩) else undef, if b 0 = true then .slice (some ⟨w.heap.size, 0, none⟩) 16 32 else undef, if b 1 = true then .pointer (some ⟨w.heap.size, 0, none⟩) else undef, if b 2 = true then .agg (vs .u8 K0) else undef, if b 3 = true then .slice (some ⟨w.heap.size, 16, none⟩) 16 16 else undef, if b 4 = true then .pointer (some ⟨w.heap.size, 16, none⟩) else undef, if b 5 = true then .agg (vs .u8 K1) else undef, undef, undef, undef, undef, undef, undef, undef], []⟩) (by kernel_rfl) (by kernel_rfl) ?start1 ?step1 ?done1
  case start1 => exact ⟨0, 0, ⟨rfl, rfl, rfl, Nat.le_refl _, fun _ _ _ => rfl⟩, by simp, by simp, by simp, by simp, by simp, by simp⟩
  case step1 =>
    intro i o b a w1 ho hI hb hr hc
    obtain ⟨g3, g4, hF, h6, h7, p6_7, hq6, hq7, rfl⟩ := hI
    match i, ho with
    | 0, ho =>
      injection ho with ho
      subst ho
      refine wp_quiet_here (.slice (some ⟨w.heap.size, 0, none⟩) 16 32) ?_ (fun w2 hw2 => ?_)
      · simp only [Bool.false_eq_true] 
        go_big_quiet_op
        first
          | (simp [Act.put]; done)
          | exact ⟨_, fun _ _ => rfl, by simp [Act.put]⟩
      refine ⟨g3, g4, hF.trans hw2, ?_, ?_, ?_, ?_, ?_, ?_⟩
      · intro hx
        replace hx : b 6 = true := by simpa [upd] using hx
        obtain ⟨k1', k2⟩ := h6 hx
        refine ⟨k1', (hw2.block _ (heap_lt k2) (fun x => x)).trans ?_⟩
        rw [k2]
        simp [upd]
      · intro hx
        replace hx : b 7 = true := by simpa [upd] using hx
        obtain ⟨k1', k2⟩ := h7 hx
        refine ⟨k1', (hw2.block _ (heap_lt k2) (fun x => x)).trans ?_⟩
        rw [k2]
        simp [upd]
      · intro hx hy
        exact p6_7 (by simpa [upd] using hx) (by simpa [upd] using hy)
      · simpa [upd] using hq6
      · simpa [upd] using hq7
      · simp [upd, Act.put]
    | 1, ho =>
      injection ho with ho
      subst ho
      simp [Region.binds] at hr
      have d0 : b 0 = true := by simp only [hr]
      simp only [hr, if_true]
      refine wp_quiet_here (.pointer (some ⟨w.heap.size, 0, none⟩)) (quiet_run (.pointer (some ⟨w.heap.size, 0, none⟩)) (fun W _ => run_arr 38 (.tmp 5) rfl (some ⟨w.heap.size, 0, none⟩) 16 32 rfl Try.underlying38 (by decide) W) rfl) (fun w2 hw2 => ?_)
      refine ⟨g3, g4, hF.trans hw2, ?_, ?_, ?_, ?_, ?_, ?_⟩
      · intro hx
        replace hx : b 6 = true := by simpa [upd] using hx
        obtain ⟨k1', k2⟩ := h6 hx
        refine ⟨k1', (hw2.block _ (heap_lt k2) (fun x => x)).trans ?_⟩
        rw [k2]
        simp [upd]
      · intro hx
        replace hx : b 7 = true := by simpa [upd] using hx
        obtain ⟨k1', k2⟩ := h7 hx
        refine ⟨k1', (hw2.block _ (heap_lt k2) (fun x => x)).trans ?_⟩
        rw [k2]
        simp [upd]
      · intro hx hy
        exact p6_7 (by simpa [upd] using hx) (by simpa [upd] using hy)
      · simpa [upd] using hq6
      · simpa [upd] using hq7
      · simp [upd, Act.put, hr]
    | 2, ho =>
      injection ho with ho
      subst ho
      simp [Region.binds] at hr
      have d1 : b 1 = true := by simp only [hr]
      simp only [hr, if_true]
      refine wp_quiet_here (.agg (vs .u8 K0)) (quiet_midP 38 _ (.tmp 6) rfl (w.heap.size) 0 rfl .u8 K0 Try.underlying38 rfl s0.out (fun _ h => by rw [HK0.out]; exact (Ar.fr (Ar.fr X0.out hF (fun x => x)) h (fun x => x)).take 16) rfl) (fun w2 hw2 => ?_)
      refine ⟨g3, g4, hF.trans hw2, ?_, ?_, ?_, ?_, ?_, ?_⟩
      · intro hx
        replace hx : b 6 = true := by simpa [upd] using hx
        obtain ⟨k1', k2⟩ := h6 hx
        refine ⟨k1', (hw2.block _ (heap_lt k2) (fun x => x)).trans ?_⟩
        rw [k2]
        simp [upd]
      · intro hx
        replace hx : b 7 = true := by simpa [upd] using hx
        obtain ⟨k1', k2⟩ := h7 hx
        refine ⟨k1', (hw2.block _ (heap_lt k2) (fun x => x)).trans ?_⟩
        rw [k2]
        simp [upd]
      · intro hx hy
        exact p6_7 (by simpa [upd] using hx) (by simpa [upd] using hy)
      · simpa [upd] using hq6
      · simpa [upd] using hq7
      · simp [upd, Act.put, hr]
    | 3, ho =>
      injection ho with ho
      subst ho
      refine wp_quiet_here (.slice (some ⟨w.heap.size, 16, none⟩) 16 16) ?_ (fun w2 hw2 => ?_)
      · simp only [Bool.false_eq_true] 
        go_big_quiet_op
        first
          | (simp [Act.put]; done)
          | exact ⟨_, fun _ _ => rfl, by simp [Act.put]⟩
      refine ⟨g3, g4, hF.trans hw2, ?_, ?_, ?_, ?_, ?_, ?_⟩
      · intro hx
        replace hx : b 6 = true := by simpa [upd] using hx
        obtain ⟨k1', k2⟩ := h6 hx
        refine ⟨k1', (hw2.block _ (heap_lt k2) (fun x => x)).trans ?_⟩
        rw [k2]
        simp [upd]
      · intro hx
        replace hx : b 7 = true := by simpa [upd] using hx
        obtain ⟨k1', k2⟩ := h7 hx
        refine ⟨k1', (hw2.block _ (heap_lt k2) (fun x => x)).trans ?_⟩
        rw [k2]
        simp [upd]
      · intro hx hy
        exact p6_7 (by simpa [upd] using hx) (by simpa [upd] using hy)
      · simpa [upd] using hq6
      · simpa [upd] using hq7
      · simp [upd, Act.put]
    | 4, ho =>
      injection ho with ho
      subst ho
      simp [Region.binds] at hr
      have d3 : b 3 = true := by simp only [hr]
      simp only [hr, if_true]
      refine wp_quiet_here (.pointer (some ⟨w.heap.size, 16, none⟩)) (quiet_run (.pointer (some ⟨w.heap.size, 16, none⟩)) (fun W _ => run_arr 38 (.tmp 8) rfl (some ⟨w.heap.size, 16, none⟩) 16 16 rfl Try.underlying38 (by decide) W) rfl) (fun w2 hw2 => ?_)
      refine ⟨g3, g4, hF.trans hw2, ?_, ?_, ?_, ?_, ?_, ?_⟩
      · intro hx
        replace hx : b 6 = true := by simpa [upd] using hx
        obtain ⟨k1', k2⟩ := h6 hx
        refine ⟨k1', (hw2.block _ (heap_lt k2) (fun x => x)).trans ?_⟩
        rw [k2]
        simp [upd]
      · intro hx
        replace hx : b 7 = true := by simpa [upd] using hx
        obtain ⟨k1', k2⟩ := h7 hx
        refine ⟨k1', (hw2.block _ (heap_lt k2) (fun x => x)).trans ?_⟩
        rw [k2]
        simp [upd]
      · intro hx hy
        exact p6_7 (by simpa [upd] using hx) (by simpa [upd] using hy)
      · simpa [upd] using hq6
      · simpa [upd] using hq7
      · simp [upd, Act.put, hr]
    | 5, ho =>
      injection ho with ho
      subst ho
      simp [Region.binds] at hr
      have d4 : b 4 = true := by simp only [hr]
      simp only [hr, if_true]
      refine wp_quiet_here (.agg (vs .u8 K1)) (quiet_midP 38 _ (.tmp 9) rfl (w.heap.size) 16 rfl .u8 K1 Try.underlying38 rfl s1.out (fun _ h => by rw [HK1.out]; exact (Ar.fr (Ar.fr X0.out hF (fun x => x)) h (fun x => x)).drop 16) rfl) (fun w2 hw2 => ?_)
      refine ⟨g3, g4, hF.trans hw2, ?_, ?_, ?_, ?_, ?_, ?_⟩
      · intro hx
        replace hx : b 6 = true := by simpa [upd] using hx
        obtain ⟨k1', k2⟩ := h6 hx
        refine ⟨k1', (hw2.block _ (heap_lt k2) (fun x => x)).trans ?_⟩
        rw [k2]
        simp [upd]
      · intro hx
        replace hx : b 7 = true := by simpa [upd] using hx
        obtain ⟨k1', k2⟩ := h7 hx
        refine ⟨k1', (hw2.block _ (heap_lt k2) (fun x => x)).trans ?_⟩
        rw [k2]
        simp [upd]
      · intro hx hy
        exact p6_7 (by simpa [upd] using hx) (by simpa [upd] using hy)
      · simpa [upd] using hq6
      · simpa [upd] using hq7
      · simp [upd, Act.put, hr]
    | 6, ho =>
      injection ho with ho
      subst ho
      refine wp_alloc_any 38 rfl (vs .u8 (List.replicate 16 0)) zero26 ?_
      refine ⟨w1.heap.size, g4, hF.alloc _, ?_, ?_, ?_, ?_, ?_, ?_⟩
      · intro _
        refine ⟨hF.size, (heap_alloc_new w1 _).trans ?_⟩
        have hs : b 8 = false := by
          rcases hbs : b 8 with _ | _
          · rfl
          · rw [hq6 hbs] at hb
            cases hb
        simp [upd, hs]
      · intro hx
        replace hx : b 7 = true := by simpa [upd] using hx
        obtain ⟨k1', k2⟩ := h7 hx
        refine ⟨k1', (Below.heap_alloc w1 _ _ (heap_lt k2)).trans ?_⟩
        rw [k2]
        simp [upd]
      · intro _ hy
        have := heap_lt (h7 (by simpa [upd] using hy)).2
        omega
      · simp [upd]
      · simpa [upd] using hq7
      · simp [upd, Act.put]
    | 7, ho =>
      injection ho with ho
      subst ho
      refine wp_alloc_any 38 rfl (vs .u8 (List.replicate 16 0)) zero26 ?_
      refine ⟨g3, w1.heap.size, hF.alloc _, ?_, ?_, ?_, ?_, ?_, ?_⟩
      · intro hx
        replace hx : b 6 = true := by simpa [upd] using hx
        obtain ⟨k1', k2⟩ := h6 hx
        refine ⟨k1', (Below.heap_alloc w1 _ _ (heap_lt k2)).trans ?_⟩
        rw [k2]
        simp [upd]
      · intro _
        refine ⟨hF.size, (heap_alloc_new w1 _).trans ?_⟩
        have hs : b 9 = false := by
          rcases hbs : b 9 with _ | _
          · rfl
          · rw [hq7 hbs] at hb
            cases hb
        simp [upd, hs]
      · intro hx _
        have := heap_lt (h6 (by simpa [upd] using hx)).2
        omega
      · simpa [upd] using hq6
      · simp [upd]
      · simp [upd, Act.put]
    | 8, ho =>
      injection ho with ho
      subst ho
      simp [Region.binds] at hr
      have d2 : b 2 = true := by simp only [hr]
      have d6 : b 6 = true := by simp only [hr]
      simp only [hr, if_true]
      obtain ⟨k1, k2⟩ := h6 d6
      rw [hb] at k2
      simp only [Bool.false_eq_true, if_false] at k2
      refine wp_store_row 38 (.tmp 3) (.tmp 7) rfl g3 (vs .u8 K0) rfl rfl 38 _ k2 (by rw [vs_size, L0.out]; exact info26) (by rw [vs_size, vs_size, L0.out]; rfl) (vs_all _ _) ?_
      refine ⟨g3, g4, hF.setRow _ (.inr k1), ?_, ?_, ?_, ?_, ?_, ?_⟩
      · intro _
        refine ⟨k1, (setRow_heap _ _ _ _ _ _ k2).trans ?_⟩
        simp [upd]
      · intro hx
        replace hx : b 7 = true := by simpa [upd] using hx
        obtain ⟨k1', k2⟩ := h7 hx
        refine ⟨k1', (setRow_other _ _ _ _ (fun e => (p6_7 (by simp [d2, d6, hx]) (by simp [d2, d6, hx])) e.symm)).trans ?_⟩
        rw [k2]
        simp [upd]
      · intro hx hy
        exact p6_7 (by simpa [upd] using hx) (by simpa [upd] using hy)
      · simp [upd, d6]
      · simpa [upd] using hq7
      · simp [upd, Act.put, hr]
    | 9, ho =>
      injection ho with ho
      subst ho
      simp [Region.binds] at hr
      have d5 : b 5 = true := by simp only [hr]
      have d7 : b 7 = true := by simp only [hr]
      simp only [hr, if_true]
      obtain ⟨k1, k2⟩ := h7 d7
      rw [hb] at k2
      simp only [Bool.false_eq_true, if_false] at k2
      refine wp_store_row 38 (.tmp 4) (.tmp 10) rfl g4 (vs .u8 K1) rfl rfl 38 _ k2 (by rw [vs_size, L1.out]; exact info26) (by rw [vs_size, vs_size, L1.out]; rfl) (vs_all _ _) ?_
      refine ⟨g3, g4, hF.setRow _ (.inr k1), ?_, ?_, ?_, ?_, ?_, ?_⟩
      · intro hx
        replace hx : b 6 = true := by simpa [upd] using hx
        obtain ⟨k1', k2⟩ := h6 hx
        refine ⟨k1', (setRow_other _ _ _ _ (fun e => (p6_7 (by simp [d5, d7, hx]) (by simp [d5, d7, hx])) e)).trans ?_⟩
        rw [k2]
        simp [upd]
      · intro _
        refine ⟨k1, (setRow_heap _ _ _ _ _ _ k2).trans ?_⟩
        simp [upd]
      · intro hx hy
        exact p6_7 (by simpa [upd] using hx) (by simpa [upd] using hy)
      · simpa [upd] using hq6
      · simp [upd, d7]
      · simp [upd, Act.put, hr]
    | j + 10, ho => exact absurd ho (by simp)
  intro b a W2 hall hI
  obtain ⟨g3, g4, hF, h6, h7, p6_7, hq6, hq7, rfl⟩ := hI
  have t0 : b 0 = true := hall 0 (by simp)
  have t1 : b 1 = true := hall 1 (by simp)
  have t2 : b 2 = true := hall 2 (by simp)
  have t3 : b 3 = true := hall 3 (by simp)
  have t4 : b 4 = true := hall 4 (by simp)
  have t5 : b 5 = true := hall 5 (by simp)
  have t6 : b 6 = true := hall 6 (by simp)
  have t7 : b 7 = true := hall 7 (by simp)
  have t8 : b 8 = true := hall 8 (by simp)
  have t9 : b 9 = true := hall 9 (by simp)
  simp only [t0, t1, t2, t3, t4, t5, t6, t7, t8, t9, if_true, true_implies] at h6 h7 p6_7 hq6 hq7 ⊢
  have F2 : Hid (Fr (fun _ => False) w W2) := F0.out.trans hF
  have X2_0 := Lib.hid ((hF.block _ (heap_lt X0.out) (fun x => x)).trans X0.out)
  have X2_1 := Lib.hid h6.2
  have Yg3 : w.heap.size ≤ g3 := Nat.le_trans F0.out.size h6.1
  have X2_2 := Lib.hid h7.2
  have Yg4 : w.heap.size ≤ g4 := Nat.le_trans F0.out.size h7.1
  clear hall hF h6 h7 p6_7 hq6 hq7 t0 t1 t2 t3 t4 t5 t6 t7 t8 t9 F0
  go_upto_region 2 with (fail)
  refine wp_region_quiet_tail (C := Calm W2) 6 (by kernel_rfl) (by kernel_rfl) (Calm.start _ _ (Fr.refl _ _)) ?_
  simp only [List.take_succ_cons, List.take_zero, List.drop_succ_cons, List.drop_zero]
  refine BigFrame.wpQuiet_want rfl fun K hK => quiet_load 38 (.tmp 3) rfl (g3) rfl 38 _ (0, 0) _ (fun _ h => Calm.at X2_1.out h) Try.underlying38 rfl (by rw [vs_size, L0.out]; exact info26) (hK _ ?_)
  refine BigFrame.wpQuiet_want rfl fun K hK => ?_
  try simp only [Act.put, List.setIfInBounds_toArray, List.set_cons_succ, List.set_cons_zero]
  go_big_quiet_op
  refine ⟨_, Calm.calls C1, hK _ ?_⟩
  refine BigFrame.wpQuiet_want rfl fun K hK => ?_
  try simp only [Act.put, List.setIfInBounds_toArray, List.set_cons_succ, List.set_cons_zero]
  go_big_quiet_op
  refine ⟨_, Calm.calls C2, hK _ ?_⟩
  refine BigFrame.wpQuiet_want rfl fun K hK => quiet_load 38 (.tmp 4) rfl (g4) rfl 38 _ (0, 0) _ (fun _ h => Calm.at X2_2.out h) Try.underlying38 rfl (by rw [vs_size, L1.out]; exact info26) (hK _ ?_)
  refine BigFrame.wpQuiet_want rfl fun K hK => ?_
  try simp only [Act.put, List.setIfInBounds_toArray, List.set_cons_succ, List.set_cons_zero]
  go_big_quiet_op
  refine ⟨_, Calm.calls C3, hK _ ?_⟩
  refine BigFrame.wpQuiet_want rfl fun K hK => quiet_run (.agg (pl r0 r1 r2 0 0 0 t0 t1 (List.replicate 16 0) 0).toArray) (fun _ _ => by kernel_rfl) (hK _ ?_)
  refine wpQuiet_nil ?_
  intro w9 hw9
  have F9 : Hid (Fr (fun _ => False) w w9) := F2.out.trans hw9
  have G9 := Lib.hid hw9
  clear hw9
  try simp only [Act.put, List.setIfInBounds_toArray, List.set_cons_succ, List.set_cons_zero]
  go_wp2
  go_ret
  refine ⟨w9.heap.size, F9.out.size, rfl, ?_, F9.out.alloc _⟩
  refine ⟨0, 0, 0, List.replicate 16 0, [], [], rfl, rfl, by decide, ⟨by decide, by decide, by decide, by decide, by decide, by decide⟩, rfl, ?_, rfl, ?_⟩
  · intro b hb
    rw [List.eq_of_mem_replicate hb]
    omega
  · refine ⟨rfl, ?_⟩
    rw [← HR.out.1, ← HR.out.2.1, ← HR.out.2.2.1, ← HR.out.2.2.2.1, ← HR.out.2.2.2.2]
    exact heap_alloc_new w9 _
end Go.Proofs.Ytbafppdmlhogbaa
