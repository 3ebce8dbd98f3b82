/- KdfInner, which KdfKnown calls: contract. Conditions: slices that lie in memory, lengths below 2^47. -/
import Derived.Test.YtebknlhooijkcaaYk
namespace Go.Proofs.Ytebknlhooijkcaa
set_option linter.unusedSimpArgs false
set_option linter.unusedVariables false
open Go.ChangeShapes Go.WideShapes Go.ChangeAt Go.RowKit


set_option maxRecDepth 100000 in
set_option maxHeartbeats 16000000 in
theorem inner_is (g1 : Nat) (A1 : Option Addr) (m1 c1 : Nat) (k : List Int) (g2 : Nat) (A2 : Option Addr) (m2 c2 : Nat) (b : List Int) (w : World) (h1 : Sl w g1 (.slice A1 m1 c1) k) (hm1 : m1 ≤ 140737488353280) (h2 : Sl w g2 (.slice A2 m2 c2) b) (hm2 : m2 ≤ 140737488352280) :
    Calls Try.prog 25 #[.slice A1 m1 c1, .slice A2 m2 c2] w fun e w' => e = .returned (.bool true) ∧ Fr (fun _ => False) w w' := by
  obtain ⟨X1, hX1⟩ : ∃ X, X = xb 54 (kb k) := ⟨_, rfl⟩
  obtain ⟨X2, hX2⟩ : ∃ X, X = xb 92 (kb k) := ⟨_, rfl⟩
  obtain ⟨D, hD⟩ : ∃ D, D = dig 32 [] (X1 ++ b) := ⟨_, rfl⟩
  obtain ⟨R, hR⟩ : ∃ R, R = hm k b := ⟨_, rfl⟩
  have HRD : dig 32 [] (X2 ++ D) = R := by rw [hR, hm, hX2, hD, hX1]
  have lX1 : Hid (X1.length = 64 ∧ Bys X1) := by rw [hX1]; exact ⟨by rw [xb_length, kb_length], xb_bys (by decide) (kb_bys h1.1)⟩
  have lX2 : Hid (X2.length = 64 ∧ Bys X2) := by rw [hX2]; exact ⟨by rw [xb_length, kb_length], xb_bys (by decide) (kb_bys h1.1)⟩
  have lD : Hid (D.length = 32 ∧ Bys D) := by rw [hD]; exact ⟨dig_length (by decide) _ _, dig_bys _ _ _⟩
  have lR : Hid (R.length = 32) := by show _ = _; rw [hR]; exact hm_length _ _
  have l2 := Lib.hid h2.len
  have HM2 : Hid (m2 ≤ 140737488352280) := hm2
  have CB1 : ∀ W, Fr (fun _ => False) w W → Calls Try.prog 32 #[.slice A1 m1 c1, .int .u8 54] W fun e w' => ∃ g, W.heap.size ≤ g ∧ e = .returned (.slice (some ⟨g, 0, none⟩) 64 64) ∧ Ar w' g 5 .u8 X1 ∧ Fr (fun _ => False) W w' := fun W hf => by rw [hX1]; exact block_is g1 A1 m1 c1 k 54 W (h1.fr hf (fun _ x => x)) hm1 (by decide)
  have CB2 : ∀ W, Fr (fun _ => False) w W → Calls Try.prog 32 #[.slice A1 m1 c1, .int .u8 92] W fun e w' => ∃ g, W.heap.size ≤ g ∧ e = .returned (.slice (some ⟨g, 0, none⟩) 64 64) ∧ Ar w' g 5 .u8 X2 ∧ Fr (fun _ => False) W w' := fun W hf => by rw [hX2]; exact block_is g1 A1 m1 c1 k 92 W (h1.fr hf (fun _ x => x)) hm1 (by decide)
  have CS1 : ∀ W v, Ow W v (X1 ++ b) → Calls Try.prog 29 #[v] W fun e w' => e = .returned (.agg (vs .u8 D)) ∧ Fr (fun _ => False) W w' := fun W v h => by
    obtain ⟨A, n, c, rfl, hn⟩ := h.shape
    rw [hD]
    exact sum_is _ A n c (X1 ++ b) W h.sl (by rw [hn, List.length_append, lX1.out.1, l2.out]; have := HM2.out; omega)
  have CS2 : ∀ W v, Ow W v (X2 ++ D) → Calls Try.prog 29 #[v] W fun e w' => e = .returned (.agg (vs .u8 R)) ∧ Fr (fun _ => False) W w' := fun W v h => by
    obtain ⟨A, n, c, rfl, hn⟩ := h.shape
    rw [← HRD]
    exact sum_is _ A n c (X2 ++ D) W h.sl (by rw [hn, List.length_append, lX2.out.1, lD.out.1]; decide)
  have CH : ∀ W, Fr (fun _ => False) w W → Calls Try.prog 12 #[.slice A1 m1 c1, .slice A2 m2 c2] W fun e w' => e = .returned (.agg (vs .u8 R)) ∧ Fr (fun _ => False) W w' := fun W hf => by
    rw [hR]
    exact khmac_is g1 A1 m1 c1 k g2 A2 m2 c2 b W (h1.fr hf (fun _ x => x)) hm1 (h2.fr hf (fun _ x => x)) (by omega)
  have HEQ : ∀ W, (Op.equalIn 10000 24 (.agg (vs .u8 R)) (.agg (vs .u8 R))).run Try.prog W = .ok true W := fun W => (eq32 R R lR.out lR.out W).trans (by rw [decide_eq_true rfl])
  obtain ⟨Z, hZ⟩ : ∃ Z, Z = List.replicate 32 (0 : Int) := ⟨_, rfl⟩
  have hz : ∀ W : World, (zeroValue 24).run Try.prog W = .ok (.agg (vs .u8 Z)) W := fun W => by rw [hZ]; exact zeroA32 W
  have sD : Hid ((Try.prog.info? 24).map (·.size) = some (vs .u8 D).size) := by show _ = _; rw [szA32, vs_size, lD.out.1]
  have eD : Hid ((vs .u8 Z).size = (vs .u8 D).size) := by show _ = _; rw [vs_size, vs_size, lD.out.1, hZ]; rfl
  have H2 := Lib.hid h2
  clear hX1 hX2 hD hR HRD hZ h1 h2 hm1 hm2
  go_enter Try.func25, Try.ntmps25
  go_upto_region 3 with (go_at_call 15; refine (works_is _).mono ?_; rintro e w2 ⟨rfl, hf⟩; have F2 := Lib.hid hf; clear hf)
  go_upto_region 4 with (first
    | (go_at_call 32; refine (CB1 _ F2.out).mono ?_; rintro e w3 ⟨g3, hg3, rfl, ha, hf⟩; have F3 := Lib.hid (F2.out.trans hf); have O3 := Lib.hid (ha.ow lX1.out.2 lX1.out.1 (by decide)); have G3 := Lib.hid hg3; clear ha hf hg3)
    | (at_builtin; refine wpList_own rfl (.tmp 9) (.tmp 10) rfl O3.out rfl rfl (H2.out.fr F3.out (fun _ x => x)) (by rw [lX1.out.1]; have := HM2.out; omega) ?_; intro A4 N4 c4 w4 hap hN4; have O4 := Lib.hid hap.own; have F4 : Hid (Fr (fun _ => False) w w4) := F3.out.grown hap.grown (fun j hj => .inr (by injection hj with hj; rw [← hj]; exact Nat.le_trans F2.out.size G3.out)); clear hap hN4)
    | (go_at_call 29; refine (CS1 _ _ O4.out).mono ?_; rintro e w5 ⟨rfl, hf⟩; have F5 := Lib.hid (F4.out.trans hf); clear hf)
    | refine wpList_store_row rfl 24 (.tmp 5) (.tmp 12) rfl w5.heap.size (vs .u8 D) rfl rfl 24 (vs .u8 Z) (heap_alloc_new w5 (.cells (vs .u8 Z) 24)) sD.out eD.out (vs_all _ _) ?_)
  obtain ⟨q, hq⟩ : ∃ q, q = w5.heap.size := ⟨_, rfl⟩
  have FQ : Fr (fun _ => False) w5 ((w5.alloc (.cells (vs .u8 Z) 24)).setRow w5.heap.size (vs .u8 D)) := ((Fr.refl _ w5).alloc _).setRow _ (.inr (Nat.le_refl _))
  have T6 : Hid (Ar ((w5.alloc (.cells (vs .u8 Z) 24)).setRow w5.heap.size (vs .u8 D)) q 24 .u8 D) := by rw [hq]; exact (Ar.new w5 24 .u8 Z).row D
  have F6 := Lib.hid (F5.out.trans FQ)
  rw [← hq] at T6 F6 ⊢
  generalize (w5.alloc (.cells (vs .u8 Z) 24)).setRow q (vs .u8 D) = w6 at *
  clear FQ hq F5 F4 F3 F2 O3 O4 G3 CS1 CB1 hz
  try simp only [Act.put, List.setIfInBounds_toArray, List.set_cons_succ, List.set_cons_zero]
  refine wp_region_inv2 (fun b a w' => ∃ ga : Nat, ∃ vB : Value, Fr (fun _ => False) w6 w' ∧ (b 4 = true → Ar w' ga 5 .u8 X2) ∧ (b 6 = true → Ow w' vB (X2 ++ D)) ∧ a = ⟨#[Value.slice A1 m1 c1, Value.slice A2 m2 c2, undef, undef, if b 9 = true then .bool true else Value.bool false, Value.pointer (some { block := q, off := 0 }), Value.bool true, Value.bool false, Value.slice A1 m1 c1, Value.slice (some { block := g3, off := 0 }) 64 64, Value.slice A2 m2 c2, Value.slice A4 N4 c4, Value.agg (vs IntKind.u8 D), if b 0 = true then Value.slice A1 m1 c1 else undef, if b 1 = true then Value.slice A2 m2 c2 else undef, if b 2 = true then .agg (vs .u8 R) else undef, if b 3 = true then Value.slice A1 m1 c1 else undef, if b 4 = true then .slice (some ⟨ga, 0, none⟩) 64 64 else undef, if b 5 = true then .slice (some ⟨q, 0, none⟩) 32 32 else undef, if b 6 = true then vB else undef, if b 7 = true then .agg (vs .u8 R) else undef, if b 8 = true then .bool true else undef], []⟩) (by kernel_rfl) (by kernel_rfl) ?start4 ?step4 ?done4
  case start4 => exact ⟨0, undef, ⟨rfl, rfl, rfl, Nat.le_refl _, fun _ _ _ => rfl⟩, fun h => by simp at h, fun h => by simp at h, by simp⟩
  case step4 =>
    intro i5 o5 b a w1 ho hI hb hr hcl
    obtain ⟨ga, vB, hF, h4, h6, rfl⟩ := hI
    match i5, ho with
    | 0, ho =>
      injection ho with ho
      subst ho
      refine wp_quiet_here (Value.slice A1 m1 c1) (BigFrame.quiet_move _ rfl rfl) (fun w2 hw2 => ?_)
      refine ⟨ga, vB, hF.trans hw2, ?_, ?_, ?_⟩
      · intro hx
        have hy := h4 (by simpa [upd] using hx)
        exact hy.fr hw2 (fun x => x)
      · intro hx
        have hy := h6 (by simpa [upd] using hx)
        exact hy.keep hw2 (fun _ _ x => x)
      · simp [upd, Act.put]
    | 1, ho =>
      injection ho with ho
      subst ho
      refine wp_quiet_here (Value.slice A2 m2 c2) (BigFrame.quiet_move _ rfl rfl) (fun w2 hw2 => ?_)
      refine ⟨ga, vB, hF.trans hw2, ?_, ?_, ?_⟩
      · intro hx
        have hy := h4 (by simpa [upd] using hx)
        exact hy.fr hw2 (fun x => x)
      · intro hx
        have hy := h6 (by simpa [upd] using hx)
        exact hy.keep hw2 (fun _ _ x => x)
      · simp [upd, Act.put]
    | 2, ho =>
      injection ho with ho
      subst ho
      simp [Region.binds] at hr
      have d0 : b 0 = true := by simp only [hr]
      have d1 : b 1 = true := by simp only [hr]
      simp only [hr, if_true]
      refine wp_quiet_here (.agg (vs .u8 R)) (quiet_call 12 #[.slice A1 m1 c1, .slice A2 m2 c2] (.agg (vs .u8 R)) (fun _ => by kernel_rfl) (fun W' hc => (CH W' ((F6.out.trans hF).trans hc)).mono fun e w' ⟨he, hf⟩ => ⟨he, hc.trans hf⟩) rfl) (fun w2 hw2 => ?_)
      refine ⟨ga, vB, hF.trans hw2, ?_, ?_, ?_⟩
      · intro hx
        have hy := h4 (by simpa [upd] using hx)
        exact hy.fr hw2 (fun x => x)
      · intro hx
        have hy := h6 (by simpa [upd] using hx)
        exact hy.keep hw2 (fun _ _ x => x)
      · simp [upd, Act.put, hr]
    | 3, ho =>
      injection ho with ho
      subst ho
      refine wp_quiet_here (Value.slice A1 m1 c1) (BigFrame.quiet_move _ rfl rfl) (fun w2 hw2 => ?_)
      refine ⟨ga, vB, hF.trans hw2, ?_, ?_, ?_⟩
      · intro hx
        have hy := h4 (by simpa [upd] using hx)
        exact hy.fr hw2 (fun x => x)
      · intro hx
        have hy := h6 (by simpa [upd] using hx)
        exact hy.keep hw2 (fun _ _ x => x)
      · simp [upd, Act.put]
    | 4, ho =>
      injection ho with ho
      subst ho
      simp [Region.binds] at hr
      have d2 : b 2 = true := by simp only [hr]
      have d3 : b 3 = true := by simp only [hr]
      simp only [hr, if_true]
      refine wp_enter 32 #[.slice A1 m1 c1, .int .u8 92] (by kernel_rfl) ((CB2 w1 (F6.out.trans hF)).mono ?_)
      rintro e w2 ⟨gN, hgN, rfl, hfact, hfN⟩
      refine ⟨gN, vB, hF.trans hfN, ?_, ?_, ?_⟩
      · exact fun _ => hfact
      · intro hx
        have hy := h6 (by simpa [upd] using hx)
        exact hy.keep hfN (fun _ _ x => x)
      · simp [upd, Act.put, hr]
    | 5, ho =>
      injection ho with ho
      subst ho
      refine wp_quiet_here (.slice (some ⟨q, 0, none⟩) 32 32) ?_ (fun w2 hw2 => ?_)
      · simp only [Bool.false_eq_true] 
        go_big_quiet_op
        first
          | (simp [Act.put]; done)
          | exact ⟨_, fun _ _ => rfl, by simp [Act.put] <;> assumption⟩
      refine ⟨ga, vB, hF.trans hw2, ?_, ?_, ?_⟩
      · intro hx
        have hy := h4 (by simpa [upd] using hx)
        exact hy.fr hw2 (fun x => x)
      · intro hx
        have hy := h6 (by simpa [upd] using hx)
        exact hy.keep hw2 (fun _ _ x => x)
      · simp [upd, Act.put]
    | 6, ho =>
      injection ho with ho
      subst ho
      simp [Region.binds] at hr
      have d4 : b 4 = true := by simp only [hr]
      have d5 : b 5 = true := by simp only [hr]
      simp only [hr, if_true]
      obtain ⟨c', w2, hrn, hon, hfN⟩ := run_grow 22 (l := X2) (k := D) ((h4 d4).slt lX2.out.2 lX2.out.1 (by decide)) ((T6.out.fr hF (fun x => x)).slt lD.out.2 lD.out.1 (by decide)) (by decide) (by decide)
      obtain ⟨gN, hgN⟩ : ∃ v, v = Value.slice (some ⟨w1.heap.size, 0, none⟩) (64 + 32) c' := ⟨_, rfl⟩
      refine wp_value gN w2 (by rw [hgN]; exact run_app2 (.tmp 17) (.tmp 18) rfl rfl rfl hrn) ?_
      have hfact : Ow w2 gN (X2 ++ D) := by rw [hgN]; exact hon
      refine ⟨ga, gN, hF.trans hfN, ?_, ?_, ?_⟩
      · intro hx
        have hy := h4 (by simpa [upd] using hx)
        exact hy.fr hfN (fun x => x)
      · exact fun _ => hfact
      · simp [upd, Act.put, hr]
    | 7, ho =>
      injection ho with ho
      subst ho
      simp [Region.binds] at hr
      have d6 : b 6 = true := by simp only [hr]
      simp only [hr, if_true]
      refine wp_quiet_here (.agg (vs .u8 R)) (quiet_call 29 #[vB] (.agg (vs .u8 R)) (fun _ => by kernel_rfl) (fun W' hc => (CS2 W' vB ((h6 d6).keep hc (fun _ _ x => x))).mono fun e w' ⟨he, hf⟩ => ⟨he, hc.trans hf⟩) rfl) (fun w2 hw2 => ?_)
      refine ⟨ga, vB, hF.trans hw2, ?_, ?_, ?_⟩
      · intro hx
        have hy := h4 (by simpa [upd] using hx)
        exact hy.fr hw2 (fun x => x)
      · intro hx
        have hy := h6 (by simpa [upd] using hx)
        exact hy.keep hw2 (fun _ _ x => x)
      · simp [upd, Act.put, hr]
    | 8, ho =>
      injection ho with ho
      subst ho
      simp [Region.binds] at hr
      have d2 : b 2 = true := by simp only [hr]
      have d7 : b 7 = true := by simp only [hr]
      simp only [hr, if_true]
      refine wp_quiet_here (.bool true) ?_ (fun w2 hw2 => ?_)
      · go_big_quiet_op
        first
          | (simp [Act.put]; done)
          | exact ⟨_, fun _ _ => rfl, by simp [Act.put] <;> assumption⟩
      refine ⟨ga, vB, hF.trans hw2, ?_, ?_, ?_⟩
      · intro hx
        have hy := h4 (by simpa [upd] using hx)
        exact hy.fr hw2 (fun x => x)
      · intro hx
        have hy := h6 (by simpa [upd] using hx)
        exact hy.keep hw2 (fun _ _ x => x)
      · simp [upd, Act.put, hr]
    | 9, ho =>
      injection ho with ho
      subst ho
      simp [Region.binds] at hr
      have d0 : b 0 = true := by simp only [hr]
      have d1 : b 1 = true := by simp only [hr]
      have d2 : b 2 = true := by simp only [hr]
      have d3 : b 3 = true := by simp only [hr]
      have d4 : b 4 = true := by simp only [hr]
      have d5 : b 5 = true := by simp only [hr]
      have d6 : b 6 = true := by simp only [hr]
      have d7 : b 7 = true := by simp only [hr]
      have d8 : b 8 = true := by simp only [hr]
      simp only [hr, if_true]
      refine wp_quiet_here (.bool true) (BigFrame.quiet_assign _ rfl rfl) (fun w2 hw2 => ?_)
      refine ⟨ga, vB, hF.trans hw2, ?_, ?_, ?_⟩
      · intro hx
        have hy := h4 (by simpa [upd] using hx)
        exact hy.fr hw2 (fun x => x)
      · intro hx
        have hy := h6 (by simpa [upd] using hx)
        exact hy.keep hw2 (fun _ _ x => x)
      · simp [upd, Act.put, hr]
    | j + 10, ho => exact absurd ho (by simp)
  intro b a w9 hall hI
  obtain ⟨ga, vB, hF, h4, h6, rfl⟩ := hI
  have t0 : b 0 = true := hall 0 (by simp)
  have t1 : b 1 = true := hall 1 (by simp)
  have t2 : b 2 = true := hall 2 (by simp)
  have t3 : b 3 = true := hall 3 (by simp)
  have t4 : b 4 = true := hall 4 (by simp)
  have t5 : b 5 = true := hall 5 (by simp)
  have t6 : b 6 = true := hall 6 (by simp)
  have t7 : b 7 = true := hall 7 (by simp)
  have t8 : b 8 = true := hall 8 (by simp)
  have t9 : b 9 = true := hall 9 (by simp)
  simp only [t0, t1, t2, t3, t4, t5, t6, t7, t8, t9, if_true]
  have Pga := Lib.hid (h4 t4)
  have PvB := Lib.hid (h6 t6)
  have G9 := Lib.hid hF
  clear hall hF h4 h6 t0 t1 t2 t3 t4 t5 t6 t7 t8 t9
  go_wp2
  go_ret
  exact ⟨rfl, F6.out.trans G9.out⟩
end Go.Proofs.Ytebknlhooijkcaa
