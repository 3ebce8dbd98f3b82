/- curve's element of a point, and its step. Conditions: the points' blocks, elements below p. -/
import Derived.Test.YtbkbodcncjhcmaaCSq
namespace Go.Proofs.Ytbkbodcncjhcmaa
set_option linter.unusedSimpArgs false
set_option linter.unusedVariables false
open Go.RowKit

set_option maxRecDepth 100000 in
set_option maxHeartbeats 4000000 in
theorem element_is {x z r : Int} (gp : Nat) (w : World) (hP : P8 w gp x z) (hx : El x) (hz : El z) (h : r = Fm x (vi z)) :
    Calls Try.prog 41 #[.pointer (some ⟨gp, 0, none⟩)] w fun e w' => e = .returned (.agg (ec r)) ∧ Fr (fun _ => False) w w' := by
  obtain ⟨v, hv⟩ : ∃ v, v = vi z := ⟨_, rfl⟩
  have C0 := fun W => inv_c hv hz W
  have C1 := fun W => mul_c (r := r) (u := x) (v := v) (by rw [h, hv]) hx (hv ▸ el_vi z) W
  have hz' := ec_zero
  have HL := hP.lt
  have HP := Lib.hid hP
  clear h hv hx hz hP
  go_enter Try.func41, Try.ntmps41
  go_upto_region 1 with (fail)
  generalize hW : w.alloc (.cells (ec 0) 37) = W0
  have HW := Lib.hid (calm1a hW)
  have X0 := Lib.hid HW.out.1
  have Z0 : Hid (P8 W0 gp x z) := HP.out.fr HW.out.2 (fun x => x)
  have F0 : Hid (Fr (fun k => k = w.heap.size) w W0) := HW.out.2.any
  clear hW HW hz'
  refine wp_region_inv2 (fun b a w' => Fr (fun k => k = w.heap.size) W0 w' ∧ P8 w' (gp) x z ∧ w'.heap[w.heap.size]? = some (.cells (if b 10 = true then ec r else ec 0) 37 (0, 0)) ∧ a = ⟨#[.pointer (some ⟨gp, 0, none⟩), undef, .pointer (some ⟨w.heap.size, 0, none⟩), if b 0 = true then .pointer (some ⟨gp, 0, none⟩) else undef, if b 1 = true then .pointer (some ⟨gp, 0, none⟩) else undef, if b 2 = true then .pointer (some ⟨gp, 0, none⟩) else undef, if b 3 = true then .agg (ec x) else undef, if b 4 = true then .pointer (some ⟨gp, 0, none⟩) else undef, if b 5 = true then .pointer (some ⟨gp, 0, none⟩) else undef, if b 6 = true then .pointer (some ⟨gp, 4, none⟩) else undef, if b 7 = true then .agg (ec z) else undef, if b 8 = true then .agg (ec v) else undef, if b 9 = true then .agg (ec r) else undef], []⟩) (by kernel_rfl) (by kernel_rfl) ?start1 ?step1 ?done1
  case start1 => exact ⟨⟨rfl, rfl, rfl, Nat.le_refl _, fun _ _ _ => rfl⟩, Z0.out, by simp only [Bool.false_eq_true, if_false]; exact X0.out, by simp⟩
  case step1 =>
    intro i o b a w1 ho hI hb hr hc
    obtain ⟨hF, hP0, hR0, rfl⟩ := hI
    match i, ho with
    | 0, ho =>
      injection ho with ho
      subst ho
      refine wp_quiet_here (.pointer (some ⟨gp, 0, none⟩)) (BigFrame.quiet_move _ rfl rfl) (fun w2 hw2 => ?_)
      refine ⟨hF.trans hw2.any, ?_, ?_, ?_⟩
      · have hh := hP0.fr hw2 (fun x => x)
        simpa [upd] using hh
      · have hh := (hw2.block _ (heap_lt hR0) (fun x => x)).trans hR0
        simpa [upd] using hh
      · simp [upd, Act.put]
    | 1, ho =>
      injection ho with ho
      subst ho
      simp [Region.binds] at hr
      have d0 : b 0 = true := by simp only [hr]
      simp only [hr, if_true]
      refine wp_quiet_here (.pointer (some ⟨gp, 0, none⟩)) ?_ (fun w2 hw2 => ?_)
      · go_big_quiet_op
        first
          | (simp [Act.put]; done)
          | exact ⟨_, fun _ _ => rfl, by simp [Act.put]⟩
      refine ⟨hF.trans hw2.any, ?_, ?_, ?_⟩
      · have hh := hP0.fr hw2 (fun x => x)
        simpa [upd] using hh
      · have hh := (hw2.block _ (heap_lt hR0) (fun x => x)).trans hR0
        simpa [upd] using hh
      · simp [upd, Act.put, hr]
    | 2, ho =>
      injection ho with ho
      subst ho
      simp [Region.binds] at hr
      have d1 : b 1 = true := by simp only [hr]
      simp only [hr, if_true]
      refine wp_quiet_here (.pointer (some ⟨gp, 0, none⟩)) ?_ (fun w2 hw2 => ?_)
      · go_big_quiet_op
        first
          | (simp [Act.put]; done)
          | exact ⟨_, fun _ _ => rfl, by simp [Act.put]⟩
      refine ⟨hF.trans hw2.any, ?_, ?_, ?_⟩
      · have hh := hP0.fr hw2 (fun x => x)
        simpa [upd] using hh
      · have hh := (hw2.block _ (heap_lt hR0) (fun x => x)).trans hR0
        simpa [upd] using hh
      · simp [upd, Act.put, hr]
    | 3, ho =>
      injection ho with ho
      subst ho
      simp [Region.binds] at hr
      have d2 : b 2 = true := by simp only [hr]
      simp only [hr, if_true]
      have hL := hP0
      refine wp_quiet_here _ (quiet_half (.tmp 5) rfl (gp) 0 rfl x (fun _ h => (hL.fr h (fun x => x)).r0) rfl) (fun w2 hw2 => ?_)
      refine ⟨hF.trans hw2.any, ?_, ?_, ?_⟩
      · have hh := hP0.fr hw2 (fun x => x)
        simpa [upd] using hh
      · have hh := (hw2.block _ (heap_lt hR0) (fun x => x)).trans hR0
        simpa [upd] using hh
      · simp [upd, Act.put, hr]
    | 4, ho =>
      injection ho with ho
      subst ho
      refine wp_quiet_here (.pointer (some ⟨gp, 0, none⟩)) (BigFrame.quiet_move _ rfl rfl) (fun w2 hw2 => ?_)
      refine ⟨hF.trans hw2.any, ?_, ?_, ?_⟩
      · have hh := hP0.fr hw2 (fun x => x)
        simpa [upd] using hh
      · have hh := (hw2.block _ (heap_lt hR0) (fun x => x)).trans hR0
        simpa [upd] using hh
      · simp [upd, Act.put]
    | 5, ho =>
      injection ho with ho
      subst ho
      simp [Region.binds] at hr
      have d4 : b 4 = true := by simp only [hr]
      simp only [hr, if_true]
      refine wp_quiet_here (.pointer (some ⟨gp, 0, none⟩)) ?_ (fun w2 hw2 => ?_)
      · go_big_quiet_op
        first
          | (simp [Act.put]; done)
          | exact ⟨_, fun _ _ => rfl, by simp [Act.put]⟩
      refine ⟨hF.trans hw2.any, ?_, ?_, ?_⟩
      · have hh := hP0.fr hw2 (fun x => x)
        simpa [upd] using hh
      · have hh := (hw2.block _ (heap_lt hR0) (fun x => x)).trans hR0
        simpa [upd] using hh
      · simp [upd, Act.put, hr]
    | 6, ho =>
      injection ho with ho
      subst ho
      simp [Region.binds] at hr
      have d5 : b 5 = true := by simp only [hr]
      simp only [hr, if_true]
      refine wp_quiet_here (.pointer (some ⟨gp, 4, none⟩)) ?_ (fun w2 hw2 => ?_)
      · go_big_quiet_op
        first
          | (simp [Act.put]; done)
          | exact ⟨_, fun _ _ => rfl, by simp [Act.put]⟩
      refine ⟨hF.trans hw2.any, ?_, ?_, ?_⟩
      · have hh := hP0.fr hw2 (fun x => x)
        simpa [upd] using hh
      · have hh := (hw2.block _ (heap_lt hR0) (fun x => x)).trans hR0
        simpa [upd] using hh
      · simp [upd, Act.put, hr]
    | 7, ho =>
      injection ho with ho
      subst ho
      simp [Region.binds] at hr
      have d6 : b 6 = true := by simp only [hr]
      simp only [hr, if_true]
      have hL := hP0
      refine wp_quiet_here _ (quiet_half (.tmp 9) rfl (gp) 4 rfl z (fun _ h => (hL.fr h (fun x => x)).r1) rfl) (fun w2 hw2 => ?_)
      refine ⟨hF.trans hw2.any, ?_, ?_, ?_⟩
      · have hh := hP0.fr hw2 (fun x => x)
        simpa [upd] using hh
      · have hh := (hw2.block _ (heap_lt hR0) (fun x => x)).trans hR0
        simpa [upd] using hh
      · simp [upd, Act.put, hr]
    | 8, ho =>
      injection ho with ho
      subst ho
      simp [Region.binds] at hr
      have d7 : b 7 = true := by simp only [hr]
      simp only [hr, if_true]
      refine wp_quiet_here (.agg (ec v)) ?_ (fun w2 hw2 => ?_)
      · go_big_quiet_op
        exact ⟨_, Calm.calls C0, by simp [Act.put]⟩
      refine ⟨hF.trans hw2.any, ?_, ?_, ?_⟩
      · have hh := hP0.fr hw2 (fun x => x)
        simpa [upd] using hh
      · have hh := (hw2.block _ (heap_lt hR0) (fun x => x)).trans hR0
        simpa [upd] using hh
      · simp [upd, Act.put, hr]
    | 9, ho =>
      injection ho with ho
      subst ho
      simp [Region.binds] at hr
      have d3 : b 3 = true := by simp only [hr]
      have d8 : b 8 = true := by simp only [hr]
      simp only [hr, if_true]
      refine wp_quiet_here (.agg (ec r)) ?_ (fun w2 hw2 => ?_)
      · go_big_quiet_op
        exact ⟨_, Calm.calls C1, by simp [Act.put]⟩
      refine ⟨hF.trans hw2.any, ?_, ?_, ?_⟩
      · have hh := hP0.fr hw2 (fun x => x)
        simpa [upd] using hh
      · have hh := (hw2.block _ (heap_lt hR0) (fun x => x)).trans hR0
        simpa [upd] using hh
      · simp [upd, Act.put, hr]
    | 10, ho =>
      injection ho with ho
      subst ho
      simp [Region.binds] at hr
      have d9 : b 9 = true := by simp only [hr]
      simp only [hr, if_true]
      have k2 := hR0
      rw [hb] at k2
      simp only [Bool.false_eq_true, if_false] at k2
      refine wp_store_row 37 (.tmp 2) (.tmp 12) rfl (w.heap.size) (ec r) rfl rfl 37 _ k2 (ec_info _) rfl (ec_all _) ?_
      refine ⟨hF.setRow _ (.inl (by simp)), ?_, ?_, ?_⟩
      · have hh := hP0.rowFar (g' := w.heap.size) (by first | assumption | omega) (ec r)
        simpa [upd] using hh
      · refine (setRow_heap _ _ _ _ _ _ hR0).trans ?_
        simp [upd]
      · simp [upd, Act.put, hr]
    | j + 11, ho => exact absurd ho (by simp)
  intro b a W2 hall hI
  obtain ⟨hF, hP0, hR0, rfl⟩ := hI
  have t0 : b 0 = true := hall 0 (by simp)
  have t1 : b 1 = true := hall 1 (by simp)
  have t2 : b 2 = true := hall 2 (by simp)
  have t3 : b 3 = true := hall 3 (by simp)
  have t4 : b 4 = true := hall 4 (by simp)
  have t5 : b 5 = true := hall 5 (by simp)
  have t6 : b 6 = true := hall 6 (by simp)
  have t7 : b 7 = true := hall 7 (by simp)
  have t8 : b 8 = true := hall 8 (by simp)
  have t9 : b 9 = true := hall 9 (by simp)
  have t10 : b 10 = true := hall 10 (by simp)
  simp only [t0, t1, t2, t3, t4, t5, t6, t7, t8, t9, t10, if_true, true_implies] at hP0 hR0 ⊢
  have F2 : Hid (Fr (fun k => k = w.heap.size) w W2) := F0.out.trans hF
  have X2_0 := Lib.hid hR0
  have Z2_0 := Lib.hid hP0
  clear hall hF hP0 hR0 t0 t1 t2 t3 t4 t5 t6 t7 t8 t9 t10 F0
  go_wp2
  refine bodyPost_ret (results_cell_row Try.results41 _ _ _ 37 _ (0, 0) _ rfl X2_0.out Try.underlying37 rfl (ec_info _)) rfl ⟨rfl, F2.out.weaken fun i hi hs => ?_⟩
  omega

/-- One step, by its letters. -/
structure Stp (x1 px pz qx qz px' pz' qx' qz' : Int) : Prop where
  x2 : px' = Fm (Fm (Fa px pz) (Fa px pz)) (Fm (Fs px pz) (Fs px pz))
  z2 : pz' = Fm (Fs (Fm (Fa px pz) (Fa px pz)) (Fm (Fs px pz) (Fs px pz))) (Fa (Fm (Fa px pz) (Fa px pz)) (Fm 121665 (Fs (Fm (Fa px pz) (Fa px pz)) (Fm (Fs px pz) (Fs px pz)))))
  x3 : qx' = Fm (Fa (Fm (Fs qx qz) (Fa px pz)) (Fm (Fa qx qz) (Fs px pz))) (Fa (Fm (Fs qx qz) (Fa px pz)) (Fm (Fa qx qz) (Fs px pz)))
  z3 : qz' = Fm x1 (Fm (Fs (Fm (Fs qx qz) (Fa px pz)) (Fm (Fa qx qz) (Fs px pz))) (Fs (Fm (Fs qx qz) (Fa px pz)) (Fm (Fa qx qz) (Fs px pz))))

set_option maxRecDepth 100000 in
set_option maxHeartbeats 16000000 in
theorem step_is {x1 px pz qx qz px' pz' qx' qz' : Int} (gp gq : Nat) (w : World) (hP : P8 w gp px pz) (hQ : P8 w gq qx qz) (hne : gp ≠ gq) (e0 : El x1) (e1 : El px) (e2 : El pz) (e3 : El qx) (e4 : El qz) (h : Stp x1 px pz qx qz px' pz' qx' qz') :
    Calls Try.prog 40 #[.pointer (some ⟨gp, 0, none⟩), .pointer (some ⟨gq, 0, none⟩), .agg (ec x1)] w fun e w' => e = .returned (.tuple #[]) ∧ P8 w' gp px' pz' ∧ P8 w' gq qx' qz' ∧ Fr (fun k => k = gp ∨ k = gq) w w' := by
  obtain ⟨va, ha⟩ : ∃ v, v = Fa px pz := ⟨_, rfl⟩
  obtain ⟨vb, hb⟩ : ∃ v, v = Fs px pz := ⟨_, rfl⟩
  obtain ⟨vc, hc⟩ : ∃ v, v = Fa qx qz := ⟨_, rfl⟩
  obtain ⟨vd, hd⟩ : ∃ v, v = Fs qx qz := ⟨_, rfl⟩
  obtain ⟨vaa, haa⟩ : ∃ v, v = Fm va va := ⟨_, rfl⟩
  obtain ⟨vbb, hbb⟩ : ∃ v, v = Fm vb vb := ⟨_, rfl⟩
  obtain ⟨vda, hda⟩ : ∃ v, v = Fm vd va := ⟨_, rfl⟩
  obtain ⟨vcb, hcb⟩ : ∃ v, v = Fm vc vb := ⟨_, rfl⟩
  obtain ⟨ve, he⟩ : ∃ v, v = Fs vaa vbb := ⟨_, rfl⟩
  obtain ⟨vs1, hs1⟩ : ∃ v, v = Fa vda vcb := ⟨_, rfl⟩
  obtain ⟨vs2, hs2⟩ : ∃ v, v = Fs vda vcb := ⟨_, rfl⟩
  obtain ⟨vs3, hs3⟩ : ∃ v, v = Fm vs2 vs2 := ⟨_, rfl⟩
  obtain ⟨vm, hm⟩ : ∃ v, v = Fm 121665 ve := ⟨_, rfl⟩
  obtain ⟨vt, ht⟩ : ∃ v, v = Fa vaa vm := ⟨_, rfl⟩
  have hx2 : px' = Fm vaa vbb := by rw [h.x2, haa, hbb, ha, hb]
  have hz2 : pz' = Fm ve vt := by rw [h.z2, ht, hm, he, haa, hbb, ha, hb]
  have hx3 : qx' = Fm vs1 vs1 := by rw [h.x3, hs1, hda, hcb, ha, hb, hc, hd]
  have hz3 : qz' = Fm x1 vs3 := by rw [h.z3, hs3, hs2, hda, hcb, ha, hb, hc, hd]
  have ea : El va := ha ▸ el_fa _ _
  have eb : El vb := hb ▸ el_fs _ _
  have ec1 : El vc := hc ▸ el_fa _ _
  have ed : El vd := hd ▸ el_fs _ _
  have eaa : El vaa := haa ▸ el_fm _ _
  have ebb : El vbb := hbb ▸ el_fm _ _
  have eda : El vda := hda ▸ el_fm _ _
  have ecb : El vcb := hcb ▸ el_fm _ _
  have ee : El ve := he ▸ el_fs _ _
  have es1 : El vs1 := hs1 ▸ el_fa _ _
  have es2 : El vs2 := hs2 ▸ el_fs _ _
  have es3 : El vs3 := hs3 ▸ el_fm _ _
  have em : El vm := hm ▸ el_fm _ _
  have et : El vt := ht ▸ el_fa _ _
  have Ca := fun W => add_c ha e1 e2 W
  have Cb := fun W => sub_c hb e1 e2 W
  have Cc := fun W => add_c hc e3 e4 W
  have Cd := fun W => sub_c hd e3 e4 W
  have Caa := fun W => square_c haa ea W
  have Cbb := fun W => square_c hbb eb W
  have Cda := fun W => mul_c hda ed ea W
  have Ccb := fun W => mul_c hcb ec1 eb W
  have Ce := fun W => sub_c he eaa ebb W
  have Cs1 := fun W => add_c hs1 eda ecb W
  have Cs2 := fun W => sub_c hs2 eda ecb W
  have Cs3 := fun W => square_c hs3 es2 W
  have Cm := fun W => mul_c hm (⟨by decide, by decide⟩ : El 121665) ee W
  have Ct := fun W => add_c ht eaa em W
  have Cx2 := fun W => mul_c hx2 eaa ebb W
  have Cz2 := fun W => mul_c hz2 ee et W
  have Cx3 := fun W => square_c hx3 es1 W
  have Cz3 := fun W => mul_c hz3 e0 es3 W
  have Ck := fun W => small_c 121665 (by decide) (by decide) W
  have hne' : gq ≠ gp := fun e => hne e.symm
  have lp := hP.lt
  have lq := hQ.lt
  have HS : Hid (∀ k, w.heap.size ≤ k → ¬ (k = gp ∨ k = gq)) := fun k hk => by omega
  have HP := Lib.hid hP
  have HQ := Lib.hid hQ
  clear ha hb hc hd haa hbb hda hcb he hs1 hs2 hs3 hm ht hx2 hz2 hx3 hz3 ea eb ec1 ed eaa ebb eda ecb ee es1 es2 es3 em et h e0 e1 e2 e3 e4 hP hQ
  go_enter Try.func40, Try.ntmps40
  go_upto_region 1 with (fail)
  generalize hW : w.alloc (.cells (ec x1) 37) = W0
  have HW := Lib.hid (calm1a hW)
  have X0 := Lib.hid HW.out.1
  have ZP : Hid (P8 W0 gp px pz) := HP.out.fr HW.out.2 (fun x => x)
  have ZQ : Hid (P8 W0 gq qx qz) := HQ.out.fr HW.out.2 (fun x => x)
  have F0 : Hid (Fr (fun k => k = gp ∨ k = gq) w W0) := HW.out.2.any
  clear hW HW HP HQ
  refine wp_region_inv2 (fun b a w' => ∃ g6 g7 : Nat, Fr (fun k => k = gp ∨ k = gq) W0 w' ∧ (b 18 = true → W0.heap.size ≤ g6 ∧ w'.heap[g6]? = some (.cells (if b 20 = true then ec va else ec 0) 37 (0, 0))) ∧ (b 19 = true → W0.heap.size ≤ g7 ∧ w'.heap[g7]? = some (.cells (if b 21 = true then ec vb else ec 0) 37 (0, 0))) ∧ (b 18 = true → b 19 = true → g6 ≠ g7) ∧ (b 20 = true → b 18 = true) ∧ (b 21 = true → b 19 = true) ∧ P8 w' (gp) px pz ∧ P8 w' (gq) qx qz ∧ a = ⟨#[.pointer (some ⟨gp, 0, none⟩), .pointer (some ⟨gq, 0, none⟩), .agg (ec x1), undef, undef, .pointer (some ⟨w.heap.size, 0, none⟩), if b 18 = true then .pointer (some ⟨g6, 0, none⟩) else undef, if b 19 = true then .pointer (some ⟨g7, 0, none⟩) else undef, undef, undef, undef, undef, undef, undef, undef, if b 0 = true then .pointer (some ⟨gp, 0, none⟩) else undef, if b 1 = true then .pointer (some ⟨gp, 0, none⟩) else undef, if b 2 = true then .pointer (some ⟨gp, 0, none⟩) else undef, if b 3 = true then .agg (ec px) else undef, if b 4 = true then .pointer (some ⟨gp, 0, none⟩) else undef, if b 5 = true then .pointer (some ⟨gp, 0, none⟩) else undef, if b 6 = true then .pointer (some ⟨gp, 4, none⟩) else undef, if b 7 = true then .agg (ec pz) else undef, if b 8 = true then .agg (ec va) else undef, if b 9 = true then .pointer (some ⟨gp, 0, none⟩) else undef, if b 10 = true then .pointer (some ⟨gp, 0, none⟩) else undef, if b 11 = true then .pointer (some ⟨gp, 0, none⟩) else undef, if b 12 = true then .agg (ec px) else undef, if b 13 = true then .pointer (some ⟨gp, 0, none⟩) else undef, if b 14 = true then .pointer (some ⟨gp, 0, none⟩) else undef, if b 15 = true then .pointer (some ⟨gp, 4, none⟩) else undef, if b 16 = true then .agg (ec pz) else undef, if b 17 = true then .agg (ec vb) else undef, undef, undef, undef, undef, undef, undef, undef, undef, undef, undef, undef, undef, undef, undef, undef, undef, undef, undef, undef, undef, undef, undef, undef, undef, undef, undef, undef, undef, undef, undef, undef, undef, undef, undef, undef, undef, undef, undef, undef, undef, undef, undef, undef, undef, undef, undef, undef, undef, undef, undef, undef, undef, undef, undef, undef, undef, undef, undef, undef, undef, undef, undef, undef], []⟩) (by kernel_rfl) (by kernel_rfl) ?start1 ?step1 ?done1
  case start1 => exact ⟨0, 0, ⟨rfl, rfl, rfl, Nat.le_refl _, fun _ _ _ => rfl⟩, by simp, by simp, by simp, by simp, by simp, ZP.out, ZQ.out, by simp⟩
  case step1 =>
    intro i o b a w1 ho hI hb hr hc
    obtain ⟨g6, g7, hF, h18, h19, p18_19, hq18, hq19, hP0, hP1, rfl⟩ := hI
    match i, ho with
    | 0, ho =>
      injection ho with ho
      subst ho
      refine wp_quiet_here (.pointer (some ⟨gp, 0, none⟩)) (BigFrame.quiet_move _ rfl rfl) (fun w2 hw2 => ?_)
      refine ⟨g6, g7, hF.trans hw2.any, ?_, ?_, ?_, ?_, ?_, ?_, ?_, ?_⟩
      · intro hx
        replace hx : b 18 = true := by simpa [upd] using hx
        obtain ⟨k1', k2⟩ := h18 hx
        refine ⟨k1', (hw2.block _ (heap_lt k2) (fun x => x)).trans ?_⟩
        rw [k2]
        simp [upd]
      · intro hx
        replace hx : b 19 = true := by simpa [upd] using hx
        obtain ⟨k1', k2⟩ := h19 hx
        refine ⟨k1', (hw2.block _ (heap_lt k2) (fun x => x)).trans ?_⟩
        rw [k2]
        simp [upd]
      · intro hx hy
        exact p18_19 (by simpa [upd] using hx) (by simpa [upd] using hy)
      · simpa [upd] using hq18
      · simpa [upd] using hq19
      · have hh := hP0.fr hw2 (fun x => x)
        simpa [upd] using hh
      · have hh := hP1.fr hw2 (fun x => x)
        simpa [upd] using hh
      · simp [upd, Act.put]
    | 1, ho =>
      injection ho with ho
      subst ho
      simp [Region.binds] at hr
      have d0 : b 0 = true := by simp only [hr]
      simp only [hr, if_true]
      refine wp_quiet_here (.pointer (some ⟨gp, 0, none⟩)) ?_ (fun w2 hw2 => ?_)
      · go_big_quiet_op
        first
          | (simp [Act.put]; done)
          | exact ⟨_, fun _ _ => rfl, by simp [Act.put]⟩
      refine ⟨g6, g7, hF.trans hw2.any, ?_, ?_, ?_, ?_, ?_, ?_, ?_, ?_⟩
      · intro hx
        replace hx : b 18 = true := by simpa [upd] using hx
        obtain ⟨k1', k2⟩ := h18 hx
        refine ⟨k1', (hw2.block _ (heap_lt k2) (fun x => x)).trans ?_⟩
        rw [k2]
        simp [upd]
      · intro hx
        replace hx : b 19 = true := by simpa [upd] using hx
        obtain ⟨k1', k2⟩ := h19 hx
        refine ⟨k1', (hw2.block _ (heap_lt k2) (fun x => x)).trans ?_⟩
        rw [k2]
        simp [upd]
      · intro hx hy
        exact p18_19 (by simpa [upd] using hx) (by simpa [upd] using hy)
      · simpa [upd] using hq18
      · simpa [upd] using hq19
      · have hh := hP0.fr hw2 (fun x => x)
        simpa [upd] using hh
      · have hh := hP1.fr hw2 (fun x => x)
        simpa [upd] using hh
      · simp [upd, Act.put, hr]
    | 2, ho =>
      injection ho with ho
      subst ho
      simp [Region.binds] at hr
      have d1 : b 1 = true := by simp only [hr]
      simp only [hr, if_true]
      refine wp_quiet_here (.pointer (some ⟨gp, 0, none⟩)) ?_ (fun w2 hw2 => ?_)
      · go_big_quiet_op
        first
          | (simp [Act.put]; done)
          | exact ⟨_, fun _ _ => rfl, by simp [Act.put]⟩
      refine ⟨g6, g7, hF.trans hw2.any, ?_, ?_, ?_, ?_, ?_, ?_, ?_, ?_⟩
      · intro hx
        replace hx : b 18 = true := by simpa [upd] using hx
        obtain ⟨k1', k2⟩ := h18 hx
        refine ⟨k1', (hw2.block _ (heap_lt k2) (fun x => x)).trans ?_⟩
        rw [k2]
        simp [upd]
      · intro hx
        replace hx : b 19 = true := by simpa [upd] using hx
        obtain ⟨k1', k2⟩ := h19 hx
        refine ⟨k1', (hw2.block _ (heap_lt k2) (fun x => x)).trans ?_⟩
        rw [k2]
        simp [upd]
      · intro hx hy
        exact p18_19 (by simpa [upd] using hx) (by simpa [upd] using hy)
      · simpa [upd] using hq18
      · simpa [upd] using hq19
      · have hh := hP0.fr hw2 (fun x => x)
        simpa [upd] using hh
      · have hh := hP1.fr hw2 (fun x => x)
        simpa [upd] using hh
      · simp [upd, Act.put, hr]
    | 3, ho =>
      injection ho with ho
      subst ho
      simp [Region.binds] at hr
      have d2 : b 2 = true := by simp only [hr]
      simp only [hr, if_true]
      have hL := hP0
      refine wp_quiet_here _ (quiet_half (.tmp 17) rfl (gp) 0 rfl px (fun _ h => (hL.fr h (fun x => x)).r0) rfl) (fun w2 hw2 => ?_)
      refine ⟨g6, g7, hF.trans hw2.any, ?_, ?_, ?_, ?_, ?_, ?_, ?_, ?_⟩
      · intro hx
        replace hx : b 18 = true := by simpa [upd] using hx
        obtain ⟨k1', k2⟩ := h18 hx
        refine ⟨k1', (hw2.block _ (heap_lt k2) (fun x => x)).trans ?_⟩
        rw [k2]
        simp [upd]
      · intro hx
        replace hx : b 19 = true := by simpa [upd] using hx
        obtain ⟨k1', k2⟩ := h19 hx
        refine ⟨k1', (hw2.block _ (heap_lt k2) (fun x => x)).trans ?_⟩
        rw [k2]
        simp [upd]
      · intro hx hy
        exact p18_19 (by simpa [upd] using hx) (by simpa [upd] using hy)
      · simpa [upd] using hq18
      · simpa [upd] using hq19
      · have hh := hP0.fr hw2 (fun x => x)
        simpa [upd] using hh
      · have hh := hP1.fr hw2 (fun x => x)
        simpa [upd] using hh
      · simp [upd, Act.put, hr]
    | 4, ho =>
      injection ho with ho
      subst ho
      refine wp_quiet_here (.pointer (some ⟨gp, 0, none⟩)) (BigFrame.quiet_move _ rfl rfl) (fun w2 hw2 => ?_)
      refine ⟨g6, g7, hF.trans hw2.any, ?_, ?_, ?_, ?_, ?_, ?_, ?_, ?_⟩
      · intro hx
        replace hx : b 18 = true := by simpa [upd] using hx
        obtain ⟨k1', k2⟩ := h18 hx
        refine ⟨k1', (hw2.block _ (heap_lt k2) (fun x => x)).trans ?_⟩
        rw [k2]
        simp [upd]
      · intro hx
        replace hx : b 19 = true := by simpa [upd] using hx
        obtain ⟨k1', k2⟩ := h19 hx
        refine ⟨k1', (hw2.block _ (heap_lt k2) (fun x => x)).trans ?_⟩
        rw [k2]
        simp [upd]
      · intro hx hy
        exact p18_19 (by simpa [upd] using hx) (by simpa [upd] using hy)
      · simpa [upd] using hq18
      · simpa [upd] using hq19
      · have hh := hP0.fr hw2 (fun x => x)
        simpa [upd] using hh
      · have hh := hP1.fr hw2 (fun x => x)
        simpa [upd] using hh
      · simp [upd, Act.put]
    | 5, ho =>
      injection ho with ho
      subst ho
      simp [Region.binds] at hr
      have d4 : b 4 = true := by simp only [hr]
      simp only [hr, if_true]
      refine wp_quiet_here (.pointer (some ⟨gp, 0, none⟩)) ?_ (fun w2 hw2 => ?_)
      · go_big_quiet_op
        first
          | (simp [Act.put]; done)
          | exact ⟨_, fun _ _ => rfl, by simp [Act.put]⟩
      refine ⟨g6, g7, hF.trans hw2.any, ?_, ?_, ?_, ?_, ?_, ?_, ?_, ?_⟩
      · intro hx
        replace hx : b 18 = true := by simpa [upd] using hx
        obtain ⟨k1', k2⟩ := h18 hx
        refine ⟨k1', (hw2.block _ (heap_lt k2) (fun x => x)).trans ?_⟩
        rw [k2]
        simp [upd]
      · intro hx
        replace hx : b 19 = true := by simpa [upd] using hx
        obtain ⟨k1', k2⟩ := h19 hx
        refine ⟨k1', (hw2.block _ (heap_lt k2) (fun x => x)).trans ?_⟩
        rw [k2]
        simp [upd]
      · intro hx hy
        exact p18_19 (by simpa [upd] using hx) (by simpa [upd] using hy)
      · simpa [upd] using hq18
      · simpa [upd] using hq19
      · have hh := hP0.fr hw2 (fun x => x)
        simpa [upd] using hh
      · have hh := hP1.fr hw2 (fun x => x)
        simpa [upd] using hh
      · simp [upd, Act.put, hr]
    | 6, ho =>
      injection ho with ho
      subst ho
      simp [Region.binds] at hr
      have d5 : b 5 = true := by simp only [hr]
      simp only [hr, if_true]
      refine wp_quiet_here (.pointer (some ⟨gp, 4, none⟩)) ?_ (fun w2 hw2 => ?_)
      · go_big_quiet_op
        first
          | (simp [Act.put]; done)
          | exact ⟨_, fun _ _ => rfl, by simp [Act.put]⟩
      refine ⟨g6, g7, hF.trans hw2.any, ?_, ?_, ?_, ?_, ?_, ?_, ?_, ?_⟩
      · intro hx
        replace hx : b 18 = true := by simpa [upd] using hx
        obtain ⟨k1', k2⟩ := h18 hx
        refine ⟨k1', (hw2.block _ (heap_lt k2) (fun x => x)).trans ?_⟩
        rw [k2]
        simp [upd]
      · intro hx
        replace hx : b 19 = true := by simpa [upd] using hx
        obtain ⟨k1', k2⟩ := h19 hx
        refine ⟨k1', (hw2.block _ (heap_lt k2) (fun x => x)).trans ?_⟩
        rw [k2]
        simp [upd]
      · intro hx hy
        exact p18_19 (by simpa [upd] using hx) (by simpa [upd] using hy)
      · simpa [upd] using hq18
      · simpa [upd] using hq19
      · have hh := hP0.fr hw2 (fun x => x)
        simpa [upd] using hh
      · have hh := hP1.fr hw2 (fun x => x)
        simpa [upd] using hh
      · simp [upd, Act.put, hr]
    | 7, ho =>
      injection ho with ho
      subst ho
      simp [Region.binds] at hr
      have d6 : b 6 = true := by simp only [hr]
      simp only [hr, if_true]
      have hL := hP0
      refine wp_quiet_here _ (quiet_half (.tmp 21) rfl (gp) 4 rfl pz (fun _ h => (hL.fr h (fun x => x)).r1) rfl) (fun w2 hw2 => ?_)
      refine ⟨g6, g7, hF.trans hw2.any, ?_, ?_, ?_, ?_, ?_, ?_, ?_, ?_⟩
      · intro hx
        replace hx : b 18 = true := by simpa [upd] using hx
        obtain ⟨k1', k2⟩ := h18 hx
        refine ⟨k1', (hw2.block _ (heap_lt k2) (fun x => x)).trans ?_⟩
        rw [k2]
        simp [upd]
      · intro hx
        replace hx : b 19 = true := by simpa [upd] using hx
        obtain ⟨k1', k2⟩ := h19 hx
        refine ⟨k1', (hw2.block _ (heap_lt k2) (fun x => x)).trans ?_⟩
        rw [k2]
        simp [upd]
      · intro hx hy
        exact p18_19 (by simpa [upd] using hx) (by simpa [upd] using hy)
      · simpa [upd] using hq18
      · simpa [upd] using hq19
      · have hh := hP0.fr hw2 (fun x => x)
        simpa [upd] using hh
      · have hh := hP1.fr hw2 (fun x => x)
        simpa [upd] using hh
      · simp [upd, Act.put, hr]
    | 8, ho =>
      injection ho with ho
      subst ho
      simp [Region.binds] at hr
      have d3 : b 3 = true := by simp only [hr]
      have d7 : b 7 = true := by simp only [hr]
      simp only [hr, if_true]
      refine wp_quiet_here (.agg (ec va)) ?_ (fun w2 hw2 => ?_)
      · go_big_quiet_op
        exact ⟨_, Calm.calls Ca, by simp [Act.put]⟩
      refine ⟨g6, g7, hF.trans hw2.any, ?_, ?_, ?_, ?_, ?_, ?_, ?_, ?_⟩
      · intro hx
        replace hx : b 18 = true := by simpa [upd] using hx
        obtain ⟨k1', k2⟩ := h18 hx
        refine ⟨k1', (hw2.block _ (heap_lt k2) (fun x => x)).trans ?_⟩
        rw [k2]
        simp [upd]
      · intro hx
        replace hx : b 19 = true := by simpa [upd] using hx
        obtain ⟨k1', k2⟩ := h19 hx
        refine ⟨k1', (hw2.block _ (heap_lt k2) (fun x => x)).trans ?_⟩
        rw [k2]
        simp [upd]
      · intro hx hy
        exact p18_19 (by simpa [upd] using hx) (by simpa [upd] using hy)
      · simpa [upd] using hq18
      · simpa [upd] using hq19
      · have hh := hP0.fr hw2 (fun x => x)
        simpa [upd] using hh
      · have hh := hP1.fr hw2 (fun x => x)
        simpa [upd] using hh
      · simp [upd, Act.put, hr]
    | 9, ho =>
      injection ho with ho
      subst ho
      refine wp_quiet_here (.pointer (some ⟨gp, 0, none⟩)) (BigFrame.quiet_move _ rfl rfl) (fun w2 hw2 => ?_)
      refine ⟨g6, g7, hF.trans hw2.any, ?_, ?_, ?_, ?_, ?_, ?_, ?_, ?_⟩
      · intro hx
        replace hx : b 18 = true := by simpa [upd] using hx
        obtain ⟨k1', k2⟩ := h18 hx
        refine ⟨k1', (hw2.block _ (heap_lt k2) (fun x => x)).trans ?_⟩
        rw [k2]
        simp [upd]
      · intro hx
        replace hx : b 19 = true := by simpa [upd] using hx
        obtain ⟨k1', k2⟩ := h19 hx
        refine ⟨k1', (hw2.block _ (heap_lt k2) (fun x => x)).trans ?_⟩
        rw [k2]
        simp [upd]
      · intro hx hy
        exact p18_19 (by simpa [upd] using hx) (by simpa [upd] using hy)
      · simpa [upd] using hq18
      · simpa [upd] using hq19
      · have hh := hP0.fr hw2 (fun x => x)
        simpa [upd] using hh
      · have hh := hP1.fr hw2 (fun x => x)
        simpa [upd] using hh
      · simp [upd, Act.put]
    | 10, ho =>
      injection ho with ho
      subst ho
      simp [Region.binds] at hr
      have d9 : b 9 = true := by simp only [hr]
      simp only [hr, if_true]
      refine wp_quiet_here (.pointer (some ⟨gp, 0, none⟩)) ?_ (fun w2 hw2 => ?_)
      · go_big_quiet_op
        first
          | (simp [Act.put]; done)
          | exact ⟨_, fun _ _ => rfl, by simp [Act.put]⟩
      refine ⟨g6, g7, hF.trans hw2.any, ?_, ?_, ?_, ?_, ?_, ?_, ?_, ?_⟩
      · intro hx
        replace hx : b 18 = true := by simpa [upd] using hx
        obtain ⟨k1', k2⟩ := h18 hx
        refine ⟨k1', (hw2.block _ (heap_lt k2) (fun x => x)).trans ?_⟩
        rw [k2]
        simp [upd]
      · intro hx
        replace hx : b 19 = true := by simpa [upd] using hx
        obtain ⟨k1', k2⟩ := h19 hx
        refine ⟨k1', (hw2.block _ (heap_lt k2) (fun x => x)).trans ?_⟩
        rw [k2]
        simp [upd]
      · intro hx hy
        exact p18_19 (by simpa [upd] using hx) (by simpa [upd] using hy)
      · simpa [upd] using hq18
      · simpa [upd] using hq19
      · have hh := hP0.fr hw2 (fun x => x)
        simpa [upd] using hh
      · have hh := hP1.fr hw2 (fun x => x)
        simpa [upd] using hh
      · simp [upd, Act.put, hr]
    | 11, ho =>
      injection ho with ho
      subst ho
      simp [Region.binds] at hr
      have d10 : b 10 = true := by simp only [hr]
      simp only [hr, if_true]
      refine wp_quiet_here (.pointer (some ⟨gp, 0, none⟩)) ?_ (fun w2 hw2 => ?_)
      · go_big_quiet_op
        first
          | (simp [Act.put]; done)
          | exact ⟨_, fun _ _ => rfl, by simp [Act.put]⟩
      refine ⟨g6, g7, hF.trans hw2.any, ?_, ?_, ?_, ?_, ?_, ?_, ?_, ?_⟩
      · intro hx
        replace hx : b 18 = true := by simpa [upd] using hx
        obtain ⟨k1', k2⟩ := h18 hx
        refine ⟨k1', (hw2.block _ (heap_lt k2) (fun x => x)).trans ?_⟩
        rw [k2]
        simp [upd]
      · intro hx
        replace hx : b 19 = true := by simpa [upd] using hx
        obtain ⟨k1', k2⟩ := h19 hx
        refine ⟨k1', (hw2.block _ (heap_lt k2) (fun x => x)).trans ?_⟩
        rw [k2]
        simp [upd]
      · intro hx hy
        exact p18_19 (by simpa [upd] using hx) (by simpa [upd] using hy)
      · simpa [upd] using hq18
      · simpa [upd] using hq19
      · have hh := hP0.fr hw2 (fun x => x)
        simpa [upd] using hh
      · have hh := hP1.fr hw2 (fun x => x)
        simpa [upd] using hh
      · simp [upd, Act.put, hr]
    | 12, ho =>
      injection ho with ho
      subst ho
      simp [Region.binds] at hr
      have d11 : b 11 = true := by simp only [hr]
      simp only [hr, if_true]
      have hL := hP0
      refine wp_quiet_here _ (quiet_half (.tmp 26) rfl (gp) 0 rfl px (fun _ h => (hL.fr h (fun x => x)).r0) rfl) (fun w2 hw2 => ?_)
      refine ⟨g6, g7, hF.trans hw2.any, ?_, ?_, ?_, ?_, ?_, ?_, ?_, ?_⟩
      · intro hx
        replace hx : b 18 = true := by simpa [upd] using hx
        obtain ⟨k1', k2⟩ := h18 hx
        refine ⟨k1', (hw2.block _ (heap_lt k2) (fun x => x)).trans ?_⟩
        rw [k2]
        simp [upd]
      · intro hx
        replace hx : b 19 = true := by simpa [upd] using hx
        obtain ⟨k1', k2⟩ := h19 hx
        refine ⟨k1', (hw2.block _ (heap_lt k2) (fun x => x)).trans ?_⟩
        rw [k2]
        simp [upd]
      · intro hx hy
        exact p18_19 (by simpa [upd] using hx) (by simpa [upd] using hy)
      · simpa [upd] using hq18
      · simpa [upd] using hq19
      · have hh := hP0.fr hw2 (fun x => x)
        simpa [upd] using hh
      · have hh := hP1.fr hw2 (fun x => x)
        simpa [upd] using hh
      · simp [upd, Act.put, hr]
    | 13, ho =>
      injection ho with ho
      subst ho
      refine wp_quiet_here (.pointer (some ⟨gp, 0, none⟩)) (BigFrame.quiet_move _ rfl rfl) (fun w2 hw2 => ?_)
      refine ⟨g6, g7, hF.trans hw2.any, ?_, ?_, ?_, ?_, ?_, ?_, ?_, ?_⟩
      · intro hx
        replace hx : b 18 = true := by simpa [upd] using hx
        obtain ⟨k1', k2⟩ := h18 hx
        refine ⟨k1', (hw2.block _ (heap_lt k2) (fun x => x)).trans ?_⟩
        rw [k2]
        simp [upd]
      · intro hx
        replace hx : b 19 = true := by simpa [upd] using hx
        obtain ⟨k1', k2⟩ := h19 hx
        refine ⟨k1', (hw2.block _ (heap_lt k2) (fun x => x)).trans ?_⟩
        rw [k2]
        simp [upd]
      · intro hx hy
        exact p18_19 (by simpa [upd] using hx) (by simpa [upd] using hy)
      · simpa [upd] using hq18
      · simpa [upd] using hq19
      · have hh := hP0.fr hw2 (fun x => x)
        simpa [upd] using hh
      · have hh := hP1.fr hw2 (fun x => x)
        simpa [upd] using hh
      · simp [upd, Act.put]
    | 14, ho =>
      injection ho with ho
      subst ho
      simp [Region.binds] at hr
      have d13 : b 13 = true := by simp only [hr]
      simp only [hr, if_true]
      refine wp_quiet_here (.pointer (some ⟨gp, 0, none⟩)) ?_ (fun w2 hw2 => ?_)
      · go_big_quiet_op
        first
          | (simp [Act.put]; done)
          | exact ⟨_, fun _ _ => rfl, by simp [Act.put]⟩
      refine ⟨g6, g7, hF.trans hw2.any, ?_, ?_, ?_, ?_, ?_, ?_, ?_, ?_⟩
      · intro hx
        replace hx : b 18 = true := by simpa [upd] using hx
        obtain ⟨k1', k2⟩ := h18 hx
        refine ⟨k1', (hw2.block _ (heap_lt k2) (fun x => x)).trans ?_⟩
        rw [k2]
        simp [upd]
      · intro hx
        replace hx : b 19 = true := by simpa [upd] using hx
        obtain ⟨k1', k2⟩ := h19 hx
        refine ⟨k1', (hw2.block _ (heap_lt k2) (fun x => x)).trans ?_⟩
        rw [k2]
        simp [upd]
      · intro hx hy
        exact p18_19 (by simpa [upd] using hx) (by simpa [upd] using hy)
      · simpa [upd] using hq18
      · simpa [upd] using hq19
      · have hh := hP0.fr hw2 (fun x => x)
        simpa [upd] using hh
      · have hh := hP1.fr hw2 (fun x => x)
        simpa [upd] using hh
      · simp [upd, Act.put, hr]
    | 15, ho =>
      injection ho with ho
      subst ho
      simp [Region.binds] at hr
      have d14 : b 14 = true := by simp only [hr]
      simp only [hr, if_true]
      refine wp_quiet_here (.pointer (some ⟨gp, 4, none⟩)) ?_ (fun w2 hw2 => ?_)
      · go_big_quiet_op
        first
          | (simp [Act.put]; done)
          | exact ⟨_, fun _ _ => rfl, by simp [Act.put]⟩
      refine ⟨g6, g7, hF.trans hw2.any, ?_, ?_, ?_, ?_, ?_, ?_, ?_, ?_⟩
      · intro hx
        replace hx : b 18 = true := by simpa [upd] using hx
        obtain ⟨k1', k2⟩ := h18 hx
        refine ⟨k1', (hw2.block _ (heap_lt k2) (fun x => x)).trans ?_⟩
        rw [k2]
        simp [upd]
      · intro hx
        replace hx : b 19 = true := by simpa [upd] using hx
        obtain ⟨k1', k2⟩ := h19 hx
        refine ⟨k1', (hw2.block _ (heap_lt k2) (fun x => x)).trans ?_⟩
        rw [k2]
        simp [upd]
      · intro hx hy
        exact p18_19 (by simpa [upd] using hx) (by simpa [upd] using hy)
      · simpa [upd] using hq18
      · simpa [upd] using hq19
      · have hh := hP0.fr hw2 (fun x => x)
        simpa [upd] using hh
      · have hh := hP1.fr hw2 (fun x => x)
        simpa [upd] using hh
      · simp [upd, Act.put, hr]
    | 16, ho =>
      injection ho with ho
      subst ho
      simp [Region.binds] at hr
      have d15 : b 15 = true := by simp only [hr]
      simp only [hr, if_true]
      have hL := hP0
      refine wp_quiet_here _ (quiet_half (.tmp 30) rfl (gp) 4 rfl pz (fun _ h => (hL.fr h (fun x => x)).r1) rfl) (fun w2 hw2 => ?_)
      refine ⟨g6, g7, hF.trans hw2.any, ?_, ?_, ?_, ?_, ?_, ?_, ?_, ?_⟩
      · intro hx
        replace hx : b 18 = true := by simpa [upd] using hx
        obtain ⟨k1', k2⟩ := h18 hx
        refine ⟨k1', (hw2.block _ (heap_lt k2) (fun x => x)).trans ?_⟩
        rw [k2]
        simp [upd]
      · intro hx
        replace hx : b 19 = true := by simpa [upd] using hx
        obtain ⟨k1', k2⟩ := h19 hx
        refine ⟨k1', (hw2.block _ (heap_lt k2) (fun x => x)).trans ?_⟩
        rw [k2]
        simp [upd]
      · intro hx hy
        exact p18_19 (by simpa [upd] using hx) (by simpa [upd] using hy)
      · simpa [upd] using hq18
      · simpa [upd] using hq19
      · have hh := hP0.fr hw2 (fun x => x)
        simpa [upd] using hh
      · have hh := hP1.fr hw2 (fun x => x)
        simpa [upd] using hh
      · simp [upd, Act.put, hr]
    | 17, ho =>
      injection ho with ho
      subst ho
      simp [Region.binds] at hr
      have d12 : b 12 = true := by simp only [hr]
      have d16 : b 16 = true := by simp only [hr]
      simp only [hr, if_true]
      refine wp_quiet_here (.agg (ec vb)) ?_ (fun w2 hw2 => ?_)
      · go_big_quiet_op
        exact ⟨_, Calm.calls Cb, by simp [Act.put]⟩
      refine ⟨g6, g7, hF.trans hw2.any, ?_, ?_, ?_, ?_, ?_, ?_, ?_, ?_⟩
      · intro hx
        replace hx : b 18 = true := by simpa [upd] using hx
        obtain ⟨k1', k2⟩ := h18 hx
        refine ⟨k1', (hw2.block _ (heap_lt k2) (fun x => x)).trans ?_⟩
        rw [k2]
        simp [upd]
      · intro hx
        replace hx : b 19 = true := by simpa [upd] using hx
        obtain ⟨k1', k2⟩ := h19 hx
        refine ⟨k1', (hw2.block _ (heap_lt k2) (fun x => x)).trans ?_⟩
        rw [k2]
        simp [upd]
      · intro hx hy
        exact p18_19 (by simpa [upd] using hx) (by simpa [upd] using hy)
      · simpa [upd] using hq18
      · simpa [upd] using hq19
      · have hh := hP0.fr hw2 (fun x => x)
        simpa [upd] using hh
      · have hh := hP1.fr hw2 (fun x => x)
        simpa [upd] using hh
      · simp [upd, Act.put, hr]
    | 18, ho =>
      injection ho with ho
      subst ho
      refine wp_alloc_any 37 rfl (ec 0) ec_zero ?_
      refine ⟨w1.heap.size, g7, hF.alloc _, ?_, ?_, ?_, ?_, ?_, ?_, ?_, ?_⟩
      · intro _
        refine ⟨hF.size, (heap_alloc_new w1 _).trans ?_⟩
        have hs : b 20 = false := by
          rcases hbs : b 20 with _ | _
          · rfl
          · rw [hq18 hbs] at hb
            cases hb
        simp [upd, hs]
      · intro hx
        replace hx : b 19 = true := by simpa [upd] using hx
        obtain ⟨k1', k2⟩ := h19 hx
        refine ⟨k1', (Below.heap_alloc w1 _ _ (heap_lt k2)).trans ?_⟩
        rw [k2]
        simp [upd]
      · intro _ hy
        have := heap_lt (h19 (by simpa [upd] using hy)).2
        omega
      · simp [upd]
      · simpa [upd] using hq19
      · have hh := hP0.alloc (.cells (ec 0) 37)
        simpa [upd] using hh
      · have hh := hP1.alloc (.cells (ec 0) 37)
        simpa [upd] using hh
      · simp [upd, Act.put]
    | 19, ho =>
      injection ho with ho
      subst ho
      refine wp_alloc_any 37 rfl (ec 0) ec_zero ?_
      refine ⟨g6, w1.heap.size, hF.alloc _, ?_, ?_, ?_, ?_, ?_, ?_, ?_, ?_⟩
      · intro hx
        replace hx : b 18 = true := by simpa [upd] using hx
        obtain ⟨k1', k2⟩ := h18 hx
        refine ⟨k1', (Below.heap_alloc w1 _ _ (heap_lt k2)).trans ?_⟩
        rw [k2]
        simp [upd]
      · intro _
        refine ⟨hF.size, (heap_alloc_new w1 _).trans ?_⟩
        have hs : b 21 = false := by
          rcases hbs : b 21 with _ | _
          · rfl
          · rw [hq19 hbs] at hb
            cases hb
        simp [upd, hs]
      · intro hx _
        have := heap_lt (h18 (by simpa [upd] using hx)).2
        omega
      · simpa [upd] using hq18
      · simp [upd]
      · have hh := hP0.alloc (.cells (ec 0) 37)
        simpa [upd] using hh
      · have hh := hP1.alloc (.cells (ec 0) 37)
        simpa [upd] using hh
      · simp [upd, Act.put]
    | 20, ho =>
      injection ho with ho
      subst ho
      simp [Region.binds] at hr
      have d8 : b 8 = true := by simp only [hr]
      have d18 : b 18 = true := by simp only [hr]
      simp only [hr, if_true]
      obtain ⟨k1, k2⟩ := h18 d18
      rw [hb] at k2
      simp only [Bool.false_eq_true, if_false] at k2
      refine wp_store_row 37 (.tmp 6) (.tmp 23) rfl g6 (ec va) rfl rfl 37 _ k2 (ec_info _) rfl (ec_all _) ?_
      refine ⟨g6, g7, hF.setRow _ (.inr k1), ?_, ?_, ?_, ?_, ?_, ?_, ?_, ?_⟩
      · intro _
        refine ⟨k1, (setRow_heap _ _ _ _ _ _ k2).trans ?_⟩
        simp [upd]
      · intro hx
        replace hx : b 19 = true := by simpa [upd] using hx
        obtain ⟨k1', k2⟩ := h19 hx
        refine ⟨k1', (setRow_other _ _ _ _ (fun e => (p18_19 (by simp [d8, d18, hx]) (by simp [d8, d18, hx])) e.symm)).trans ?_⟩
        rw [k2]
        simp [upd]
      · intro hx hy
        exact p18_19 (by simpa [upd] using hx) (by simpa [upd] using hy)
      · simp [upd, d18]
      · simpa [upd] using hq19
      · have hh := hP0.rowFar (g' := g6) (by have q := ZP.out.lt; omega) (ec va)
        simpa [upd] using hh
      · have hh := hP1.rowFar (g' := g6) (by have q := ZQ.out.lt; omega) (ec va)
        simpa [upd] using hh
      · simp [upd, Act.put, hr]
    | 21, ho =>
      injection ho with ho
      subst ho
      simp [Region.binds] at hr
      have d17 : b 17 = true := by simp only [hr]
      have d19 : b 19 = true := by simp only [hr]
      simp only [hr, if_true]
      obtain ⟨k1, k2⟩ := h19 d19
      rw [hb] at k2
      simp only [Bool.false_eq_true, if_false] at k2
      refine wp_store_row 37 (.tmp 7) (.tmp 32) rfl g7 (ec vb) rfl rfl 37 _ k2 (ec_info _) rfl (ec_all _) ?_
      refine ⟨g6, g7, hF.setRow _ (.inr k1), ?_, ?_, ?_, ?_, ?_, ?_, ?_, ?_⟩
      · intro hx
        replace hx : b 18 = true := by simpa [upd] using hx
        obtain ⟨k1', k2⟩ := h18 hx
        refine ⟨k1', (setRow_other _ _ _ _ (fun e => (p18_19 (by simp [d17, d19, hx]) (by simp [d17, d19, hx])) e)).trans ?_⟩
        rw [k2]
        simp [upd]
      · intro _
        refine ⟨k1, (setRow_heap _ _ _ _ _ _ k2).trans ?_⟩
        simp [upd]
      · intro hx hy
        exact p18_19 (by simpa [upd] using hx) (by simpa [upd] using hy)
      · simpa [upd] using hq18
      · simp [upd, d19]
      · have hh := hP0.rowFar (g' := g7) (by have q := ZP.out.lt; omega) (ec vb)
        simpa [upd] using hh
      · have hh := hP1.rowFar (g' := g7) (by have q := ZQ.out.lt; omega) (ec vb)
        simpa [upd] using hh
      · simp [upd, Act.put, hr]
    | j + 22, ho => exact absurd ho (by simp)
  intro b a W2 hall hI
  obtain ⟨g6, g7, hF, h18, h19, p18_19, hq18, hq19, hP0, hP1, rfl⟩ := hI
  have t0 : b 0 = true := hall 0 (by simp)
  have t1 : b 1 = true := hall 1 (by simp)
  have t2 : b 2 = true := hall 2 (by simp)
  have t3 : b 3 = true := hall 3 (by simp)
  have t4 : b 4 = true := hall 4 (by simp)
  have t5 : b 5 = true := hall 5 (by simp)
  have t6 : b 6 = true := hall 6 (by simp)
  have t7 : b 7 = true := hall 7 (by simp)
  have t8 : b 8 = true := hall 8 (by simp)
  have t9 : b 9 = true := hall 9 (by simp)
  have t10 : b 10 = true := hall 10 (by simp)
  have t11 : b 11 = true := hall 11 (by simp)
  have t12 : b 12 = true := hall 12 (by simp)
  have t13 : b 13 = true := hall 13 (by simp)
  have t14 : b 14 = true := hall 14 (by simp)
  have t15 : b 15 = true := hall 15 (by simp)
  have t16 : b 16 = true := hall 16 (by simp)
  have t17 : b 17 = true := hall 17 (by simp)
  have t18 : b 18 = true := hall 18 (by simp)
  have t19 : b 19 = true := hall 19 (by simp)
  have t20 : b 20 = true := hall 20 (by simp)
  have t21 : b 21 = true := hall 21 (by simp)
  simp only [t0, t1, t2, t3, t4, t5, t6, t7, t8, t9, t10, t11, t12, t13, t14, t15, t16, t17, t18, t19, t20, t21, if_true, true_implies] at h18 h19 p18_19 hq18 hq19 hP0 hP1 ⊢
  have F2 : Hid (Fr (fun k => k = gp ∨ k = gq) w W2) := F0.out.trans hF
  have X2_0 := Lib.hid ((hF.block _ (heap_lt X0.out) (HS.out _ (Nat.le_refl _))).trans X0.out)
  have X2_1 := Lib.hid h18.2
  have Yg6 : w.heap.size ≤ g6 := Nat.le_trans F0.out.size h18.1
  have X2_2 := Lib.hid h19.2
  have Yg7 : w.heap.size ≤ g7 := Nat.le_trans F0.out.size h19.1
  have Z2_0 := Lib.hid hP0
  have Z2_1 := Lib.hid hP1
  clear hall hF h18 h19 p18_19 hq18 hq19 hP0 hP1 t0 t1 t2 t3 t4 t5 t6 t7 t8 t9 t10 t11 t12 t13 t14 t15 t16 t17 t18 t19 t20 t21 F0
  go_upto_region 2 with (fail)
  refine wp_region_inv2 (fun b a w' => ∃ g8 g9 : Nat, Fr (fun k => k = gp ∨ k = gq) W2 w' ∧ (b 18 = true → W2.heap.size ≤ g8 ∧ w'.heap[g8]? = some (.cells (if b 20 = true then ec vc else ec 0) 37 (0, 0))) ∧ (b 19 = true → W2.heap.size ≤ g9 ∧ w'.heap[g9]? = some (.cells (if b 21 = true then ec vd else ec 0) 37 (0, 0))) ∧ (b 18 = true → b 19 = true → g8 ≠ g9) ∧ (b 20 = true → b 18 = true) ∧ (b 21 = true → b 19 = true) ∧ P8 w' (gp) px pz ∧ P8 w' (gq) qx qz ∧ a = ⟨#[.pointer (some ⟨gp, 0, none⟩), .pointer (some ⟨gq, 0, none⟩), .agg (ec x1), undef, undef, .pointer (some ⟨w.heap.size, 0, none⟩), .pointer (some ⟨g6, 0, none⟩), .pointer (some ⟨g7, 0, none⟩), if b 18 = true then .pointer (some ⟨g8, 0, none⟩) else undef, if b 19 = true then .pointer (some ⟨g9, 0, none⟩) else undef, undef, undef, undef, undef, undef, .pointer (some ⟨gp, 0, none⟩), .pointer (some ⟨gp, 0, none⟩), .pointer (some ⟨gp, 0, none⟩), .agg (ec px), .pointer (some ⟨gp, 0, none⟩), .pointer (some ⟨gp, 0, none⟩), .pointer (some ⟨gp, 4, none⟩), .agg (ec pz), .agg (ec va), .pointer (some ⟨gp, 0, none⟩), .pointer (some ⟨gp, 0, none⟩), .pointer (some ⟨gp, 0, none⟩), .agg (ec px), .pointer (some ⟨gp, 0, none⟩), .pointer (some ⟨gp, 0, none⟩), .pointer (some ⟨gp, 4, none⟩), .agg (ec pz), .agg (ec vb), if b 0 = true then .pointer (some ⟨gq, 0, none⟩) else undef, if b 1 = true then .pointer (some ⟨gq, 0, none⟩) else undef, if b 2 = true then .pointer (some ⟨gq, 0, none⟩) else undef, if b 3 = true then .agg (ec qx) else undef, if b 4 = true then .pointer (some ⟨gq, 0, none⟩) else undef, if b 5 = true then .pointer (some ⟨gq, 0, none⟩) else undef, if b 6 = true then .pointer (some ⟨gq, 4, none⟩) else undef, if b 7 = true then .agg (ec qz) else undef, if b 8 = true then .agg (ec vc) else undef, if b 9 = true then .pointer (some ⟨gq, 0, none⟩) else undef, if b 10 = true then .pointer (some ⟨gq, 0, none⟩) else undef, if b 11 = true then .pointer (some ⟨gq, 0, none⟩) else undef, if b 12 = true then .agg (ec qx) else undef, if b 13 = true then .pointer (some ⟨gq, 0, none⟩) else undef, if b 14 = true then .pointer (some ⟨gq, 0, none⟩) else undef, if b 15 = true then .pointer (some ⟨gq, 4, none⟩) else undef, if b 16 = true then .agg (ec qz) else undef, if b 17 = true then .agg (ec vd) else undef, undef, undef, undef, undef, undef, undef, undef, undef, undef, undef, undef, undef, undef, undef, undef, undef, undef, undef, undef, undef, undef, undef, undef, undef, undef, undef, undef, undef, undef, undef, undef, undef, undef, undef, undef, undef, undef, undef, undef, undef, undef, undef, undef, undef, undef], []⟩) (by kernel_rfl) (by kernel_rfl) ?start2 ?step2 ?done2
  case start2 => exact ⟨0, 0, ⟨rfl, rfl, rfl, Nat.le_refl _, fun _ _ _ => rfl⟩, by simp, by simp, by simp, by simp, by simp, Z2_0.out, Z2_1.out, by simp⟩
  case step2 =>
    intro i o b a w1 ho hI hb hr hc
    obtain ⟨g8, g9, hF, h18, h19, p18_19, hq18, hq19, hP0, hP1, rfl⟩ := hI
    match i, ho with
    | 0, ho =>
      injection ho with ho
      subst ho
      refine wp_quiet_here (.pointer (some ⟨gq, 0, none⟩)) (BigFrame.quiet_move _ rfl rfl) (fun w2 hw2 => ?_)
      refine ⟨g8, g9, hF.trans hw2.any, ?_, ?_, ?_, ?_, ?_, ?_, ?_, ?_⟩
      · intro hx
        replace hx : b 18 = true := by simpa [upd] using hx
        obtain ⟨k1', k2⟩ := h18 hx
        refine ⟨k1', (hw2.block _ (heap_lt k2) (fun x => x)).trans ?_⟩
        rw [k2]
        simp [upd]
      · intro hx
        replace hx : b 19 = true := by simpa [upd] using hx
        obtain ⟨k1', k2⟩ := h19 hx
        refine ⟨k1', (hw2.block _ (heap_lt k2) (fun x => x)).trans ?_⟩
        rw [k2]
        simp [upd]
      · intro hx hy
        exact p18_19 (by simpa [upd] using hx) (by simpa [upd] using hy)
      · simpa [upd] using hq18
      · simpa [upd] using hq19
      · have hh := hP0.fr hw2 (fun x => x)
        simpa [upd] using hh
      · have hh := hP1.fr hw2 (fun x => x)
        simpa [upd] using hh
      · simp [upd, Act.put]
    | 1, ho =>
      injection ho with ho
      subst ho
      simp [Region.binds] at hr
      have d0 : b 0 = true := by simp only [hr]
      simp only [hr, if_true]
      refine wp_quiet_here (.pointer (some ⟨gq, 0, none⟩)) ?_ (fun w2 hw2 => ?_)
      · go_big_quiet_op
        first
          | (simp [Act.put]; done)
          | exact ⟨_, fun _ _ => rfl, by simp [Act.put]⟩
      refine ⟨g8, g9, hF.trans hw2.any, ?_, ?_, ?_, ?_, ?_, ?_, ?_, ?_⟩
      · intro hx
        replace hx : b 18 = true := by simpa [upd] using hx
        obtain ⟨k1', k2⟩ := h18 hx
        refine ⟨k1', (hw2.block _ (heap_lt k2) (fun x => x)).trans ?_⟩
        rw [k2]
        simp [upd]
      · intro hx
        replace hx : b 19 = true := by simpa [upd] using hx
        obtain ⟨k1', k2⟩ := h19 hx
        refine ⟨k1', (hw2.block _ (heap_lt k2) (fun x => x)).trans ?_⟩
        rw [k2]
        simp [upd]
      · intro hx hy
        exact p18_19 (by simpa [upd] using hx) (by simpa [upd] using hy)
      · simpa [upd] using hq18
      · simpa [upd] using hq19
      · have hh := hP0.fr hw2 (fun x => x)
        simpa [upd] using hh
      · have hh := hP1.fr hw2 (fun x => x)
        simpa [upd] using hh
      · simp [upd, Act.put, hr]
    | 2, ho =>
      injection ho with ho
      subst ho
      simp [Region.binds] at hr
      have d1 : b 1 = true := by simp only [hr]
      simp only [hr, if_true]
      refine wp_quiet_here (.pointer (some ⟨gq, 0, none⟩)) ?_ (fun w2 hw2 => ?_)
      · go_big_quiet_op
        first
          | (simp [Act.put]; done)
          | exact ⟨_, fun _ _ => rfl, by simp [Act.put]⟩
      refine ⟨g8, g9, hF.trans hw2.any, ?_, ?_, ?_, ?_, ?_, ?_, ?_, ?_⟩
      · intro hx
        replace hx : b 18 = true := by simpa [upd] using hx
        obtain ⟨k1', k2⟩ := h18 hx
        refine ⟨k1', (hw2.block _ (heap_lt k2) (fun x => x)).trans ?_⟩
        rw [k2]
        simp [upd]
      · intro hx
        replace hx : b 19 = true := by simpa [upd] using hx
        obtain ⟨k1', k2⟩ := h19 hx
        refine ⟨k1', (hw2.block _ (heap_lt k2) (fun x => x)).trans ?_⟩
        rw [k2]
        simp [upd]
      · intro hx hy
        exact p18_19 (by simpa [upd] using hx) (by simpa [upd] using hy)
      · simpa [upd] using hq18
      · simpa [upd] using hq19
      · have hh := hP0.fr hw2 (fun x => x)
        simpa [upd] using hh
      · have hh := hP1.fr hw2 (fun x => x)
        simpa [upd] using hh
      · simp [upd, Act.put, hr]
    | 3, ho =>
      injection ho with ho
      subst ho
      simp [Region.binds] at hr
      have d2 : b 2 = true := by simp only [hr]
      simp only [hr, if_true]
      have hL := hP1
      refine wp_quiet_here _ (quiet_half (.tmp 35) rfl (gq) 0 rfl qx (fun _ h => (hL.fr h (fun x => x)).r0) rfl) (fun w2 hw2 => ?_)
      refine ⟨g8, g9, hF.trans hw2.any, ?_, ?_, ?_, ?_, ?_, ?_, ?_, ?_⟩
      · intro hx
        replace hx : b 18 = true := by simpa [upd] using hx
        obtain ⟨k1', k2⟩ := h18 hx
        refine ⟨k1', (hw2.block _ (heap_lt k2) (fun x => x)).trans ?_⟩
        rw [k2]
        simp [upd]
      · intro hx
        replace hx : b 19 = true := by simpa [upd] using hx
        obtain ⟨k1', k2⟩ := h19 hx
        refine ⟨k1', (hw2.block _ (heap_lt k2) (fun x => x)).trans ?_⟩
        rw [k2]
        simp [upd]
      · intro hx hy
        exact p18_19 (by simpa [upd] using hx) (by simpa [upd] using hy)
      · simpa [upd] using hq18
      · simpa [upd] using hq19
      · have hh := hP0.fr hw2 (fun x => x)
        simpa [upd] using hh
      · have hh := hP1.fr hw2 (fun x => x)
        simpa [upd] using hh
      · simp [upd, Act.put, hr]
    | 4, ho =>
      injection ho with ho
      subst ho
      refine wp_quiet_here (.pointer (some ⟨gq, 0, none⟩)) (BigFrame.quiet_move _ rfl rfl) (fun w2 hw2 => ?_)
      refine ⟨g8, g9, hF.trans hw2.any, ?_, ?_, ?_, ?_, ?_, ?_, ?_, ?_⟩
      · intro hx
        replace hx : b 18 = true := by simpa [upd] using hx
        obtain ⟨k1', k2⟩ := h18 hx
        refine ⟨k1', (hw2.block _ (heap_lt k2) (fun x => x)).trans ?_⟩
        rw [k2]
        simp [upd]
      · intro hx
        replace hx : b 19 = true := by simpa [upd] using hx
        obtain ⟨k1', k2⟩ := h19 hx
        refine ⟨k1', (hw2.block _ (heap_lt k2) (fun x => x)).trans ?_⟩
        rw [k2]
        simp [upd]
      · intro hx hy
        exact p18_19 (by simpa [upd] using hx) (by simpa [upd] using hy)
      · simpa [upd] using hq18
      · simpa [upd] using hq19
      · have hh := hP0.fr hw2 (fun x => x)
        simpa [upd] using hh
      · have hh := hP1.fr hw2 (fun x => x)
        simpa [upd] using hh
      · simp [upd, Act.put]
    | 5, ho =>
      injection ho with ho
      subst ho
      simp [Region.binds] at hr
      have d4 : b 4 = true := by simp only [hr]
      simp only [hr, if_true]
      refine wp_quiet_here (.pointer (some ⟨gq, 0, none⟩)) ?_ (fun w2 hw2 => ?_)
      · go_big_quiet_op
        first
          | (simp [Act.put]; done)
          | exact ⟨_, fun _ _ => rfl, by simp [Act.put]⟩
      refine ⟨g8, g9, hF.trans hw2.any, ?_, ?_, ?_, ?_, ?_, ?_, ?_, ?_⟩
      · intro hx
        replace hx : b 18 = true := by simpa [upd] using hx
        obtain ⟨k1', k2⟩ := h18 hx
        refine ⟨k1', (hw2.block _ (heap_lt k2) (fun x => x)).trans ?_⟩
        rw [k2]
        simp [upd]
      · intro hx
        replace hx : b 19 = true := by simpa [upd] using hx
        obtain ⟨k1', k2⟩ := h19 hx
        refine ⟨k1', (hw2.block _ (heap_lt k2) (fun x => x)).trans ?_⟩
        rw [k2]
        simp [upd]
      · intro hx hy
        exact p18_19 (by simpa [upd] using hx) (by simpa [upd] using hy)
      · simpa [upd] using hq18
      · simpa [upd] using hq19
      · have hh := hP0.fr hw2 (fun x => x)
        simpa [upd] using hh
      · have hh := hP1.fr hw2 (fun x => x)
        simpa [upd] using hh
      · simp [upd, Act.put, hr]
    | 6, ho =>
      injection ho with ho
      subst ho
      simp [Region.binds] at hr
      have d5 : b 5 = true := by simp only [hr]
      simp only [hr, if_true]
      refine wp_quiet_here (.pointer (some ⟨gq, 4, none⟩)) ?_ (fun w2 hw2 => ?_)
      · go_big_quiet_op
        first
          | (simp [Act.put]; done)
          | exact ⟨_, fun _ _ => rfl, by simp [Act.put]⟩
      refine ⟨g8, g9, hF.trans hw2.any, ?_, ?_, ?_, ?_, ?_, ?_, ?_, ?_⟩
      · intro hx
        replace hx : b 18 = true := by simpa [upd] using hx
        obtain ⟨k1', k2⟩ := h18 hx
        refine ⟨k1', (hw2.block _ (heap_lt k2) (fun x => x)).trans ?_⟩
        rw [k2]
        simp [upd]
      · intro hx
        replace hx : b 19 = true := by simpa [upd] using hx
        obtain ⟨k1', k2⟩ := h19 hx
        refine ⟨k1', (hw2.block _ (heap_lt k2) (fun x => x)).trans ?_⟩
        rw [k2]
        simp [upd]
      · intro hx hy
        exact p18_19 (by simpa [upd] using hx) (by simpa [upd] using hy)
      · simpa [upd] using hq18
      · simpa [upd] using hq19
      · have hh := hP0.fr hw2 (fun x => x)
        simpa [upd] using hh
      · have hh := hP1.fr hw2 (fun x => x)
        simpa [upd] using hh
      · simp [upd, Act.put, hr]
    | 7, ho =>
      injection ho with ho
      subst ho
      simp [Region.binds] at hr
      have d6 : b 6 = true := by simp only [hr]
      simp only [hr, if_true]
      have hL := hP1
      refine wp_quiet_here _ (quiet_half (.tmp 39) rfl (gq) 4 rfl qz (fun _ h => (hL.fr h (fun x => x)).r1) rfl) (fun w2 hw2 => ?_)
      refine ⟨g8, g9, hF.trans hw2.any, ?_, ?_, ?_, ?_, ?_, ?_, ?_, ?_⟩
      · intro hx
        replace hx : b 18 = true := by simpa [upd] using hx
        obtain ⟨k1', k2⟩ := h18 hx
        refine ⟨k1', (hw2.block _ (heap_lt k2) (fun x => x)).trans ?_⟩
        rw [k2]
        simp [upd]
      · intro hx
        replace hx : b 19 = true := by simpa [upd] using hx
        obtain ⟨k1', k2⟩ := h19 hx
        refine ⟨k1', (hw2.block _ (heap_lt k2) (fun x => x)).trans ?_⟩
        rw [k2]
        simp [upd]
      · intro hx hy
        exact p18_19 (by simpa [upd] using hx) (by simpa [upd] using hy)
      · simpa [upd] using hq18
      · simpa [upd] using hq19
      · have hh := hP0.fr hw2 (fun x => x)
        simpa [upd] using hh
      · have hh := hP1.fr hw2 (fun x => x)
        simpa [upd] using hh
      · simp [upd, Act.put, hr]
    | 8, ho =>
      injection ho with ho
      subst ho
      simp [Region.binds] at hr
      have d3 : b 3 = true := by simp only [hr]
      have d7 : b 7 = true := by simp only [hr]
      simp only [hr, if_true]
      refine wp_quiet_here (.agg (ec vc)) ?_ (fun w2 hw2 => ?_)
      · go_big_quiet_op
        exact ⟨_, Calm.calls Cc, by simp [Act.put]⟩
      refine ⟨g8, g9, hF.trans hw2.any, ?_, ?_, ?_, ?_, ?_, ?_, ?_, ?_⟩
      · intro hx
        replace hx : b 18 = true := by simpa [upd] using hx
        obtain ⟨k1', k2⟩ := h18 hx
        refine ⟨k1', (hw2.block _ (heap_lt k2) (fun x => x)).trans ?_⟩
        rw [k2]
        simp [upd]
      · intro hx
        replace hx : b 19 = true := by simpa [upd] using hx
        obtain ⟨k1', k2⟩ := h19 hx
        refine ⟨k1', (hw2.block _ (heap_lt k2) (fun x => x)).trans ?_⟩
        rw [k2]
        simp [upd]
      · intro hx hy
        exact p18_19 (by simpa [upd] using hx) (by simpa [upd] using hy)
      · simpa [upd] using hq18
      · simpa [upd] using hq19
      · have hh := hP0.fr hw2 (fun x => x)
        simpa [upd] using hh
      · have hh := hP1.fr hw2 (fun x => x)
        simpa [upd] using hh
      · simp [upd, Act.put, hr]
    | 9, ho =>
      injection ho with ho
      subst ho
      refine wp_quiet_here (.pointer (some ⟨gq, 0, none⟩)) (BigFrame.quiet_move _ rfl rfl) (fun w2 hw2 => ?_)
      refine ⟨g8, g9, hF.trans hw2.any, ?_, ?_, ?_, ?_, ?_, ?_, ?_, ?_⟩
      · intro hx
        replace hx : b 18 = true := by simpa [upd] using hx
        obtain ⟨k1', k2⟩ := h18 hx
        refine ⟨k1', (hw2.block _ (heap_lt k2) (fun x => x)).trans ?_⟩
        rw [k2]
        simp [upd]
      · intro hx
        replace hx : b 19 = true := by simpa [upd] using hx
        obtain ⟨k1', k2⟩ := h19 hx
        refine ⟨k1', (hw2.block _ (heap_lt k2) (fun x => x)).trans ?_⟩
        rw [k2]
        simp [upd]
      · intro hx hy
        exact p18_19 (by simpa [upd] using hx) (by simpa [upd] using hy)
      · simpa [upd] using hq18
      · simpa [upd] using hq19
      · have hh := hP0.fr hw2 (fun x => x)
        simpa [upd] using hh
      · have hh := hP1.fr hw2 (fun x => x)
        simpa [upd] using hh
      · simp [upd, Act.put]
    | 10, ho =>
      injection ho with ho
      subst ho
      simp [Region.binds] at hr
      have d9 : b 9 = true := by simp only [hr]
      simp only [hr, if_true]
      refine wp_quiet_here (.pointer (some ⟨gq, 0, none⟩)) ?_ (fun w2 hw2 => ?_)
      · go_big_quiet_op
        first
          | (simp [Act.put]; done)
          | exact ⟨_, fun _ _ => rfl, by simp [Act.put]⟩
      refine ⟨g8, g9, hF.trans hw2.any, ?_, ?_, ?_, ?_, ?_, ?_, ?_, ?_⟩
      · intro hx
        replace hx : b 18 = true := by simpa [upd] using hx
        obtain ⟨k1', k2⟩ := h18 hx
        refine ⟨k1', (hw2.block _ (heap_lt k2) (fun x => x)).trans ?_⟩
        rw [k2]
        simp [upd]
      · intro hx
        replace hx : b 19 = true := by simpa [upd] using hx
        obtain ⟨k1', k2⟩ := h19 hx
        refine ⟨k1', (hw2.block _ (heap_lt k2) (fun x => x)).trans ?_⟩
        rw [k2]
        simp [upd]
      · intro hx hy
        exact p18_19 (by simpa [upd] using hx) (by simpa [upd] using hy)
      · simpa [upd] using hq18
      · simpa [upd] using hq19
      · have hh := hP0.fr hw2 (fun x => x)
        simpa [upd] using hh
      · have hh := hP1.fr hw2 (fun x => x)
        simpa [upd] using hh
      · simp [upd, Act.put, hr]
    | 11, ho =>
      injection ho with ho
      subst ho
      simp [Region.binds] at hr
      have d10 : b 10 = true := by simp only [hr]
      simp only [hr, if_true]
      refine wp_quiet_here (.pointer (some ⟨gq, 0, none⟩)) ?_ (fun w2 hw2 => ?_)
      · go_big_quiet_op
        first
          | (simp [Act.put]; done)
          | exact ⟨_, fun _ _ => rfl, by simp [Act.put]⟩
      refine ⟨g8, g9, hF.trans hw2.any, ?_, ?_, ?_, ?_, ?_, ?_, ?_, ?_⟩
      · intro hx
        replace hx : b 18 = true := by simpa [upd] using hx
        obtain ⟨k1', k2⟩ := h18 hx
        refine ⟨k1', (hw2.block _ (heap_lt k2) (fun x => x)).trans ?_⟩
        rw [k2]
        simp [upd]
      · intro hx
        replace hx : b 19 = true := by simpa [upd] using hx
        obtain ⟨k1', k2⟩ := h19 hx
        refine ⟨k1', (hw2.block _ (heap_lt k2) (fun x => x)).trans ?_⟩
        rw [k2]
        simp [upd]
      · intro hx hy
        exact p18_19 (by simpa [upd] using hx) (by simpa [upd] using hy)
      · simpa [upd] using hq18
      · simpa [upd] using hq19
      · have hh := hP0.fr hw2 (fun x => x)
        simpa [upd] using hh
      · have hh := hP1.fr hw2 (fun x => x)
        simpa [upd] using hh
      · simp [upd, Act.put, hr]
    | 12, ho =>
      injection ho with ho
      subst ho
      simp [Region.binds] at hr
      have d11 : b 11 = true := by simp only [hr]
      simp only [hr, if_true]
      have hL := hP1
      refine wp_quiet_here _ (quiet_half (.tmp 44) rfl (gq) 0 rfl qx (fun _ h => (hL.fr h (fun x => x)).r0) rfl) (fun w2 hw2 => ?_)
      refine ⟨g8, g9, hF.trans hw2.any, ?_, ?_, ?_, ?_, ?_, ?_, ?_, ?_⟩
      · intro hx
        replace hx : b 18 = true := by simpa [upd] using hx
        obtain ⟨k1', k2⟩ := h18 hx
        refine ⟨k1', (hw2.block _ (heap_lt k2) (fun x => x)).trans ?_⟩
        rw [k2]
        simp [upd]
      · intro hx
        replace hx : b 19 = true := by simpa [upd] using hx
        obtain ⟨k1', k2⟩ := h19 hx
        refine ⟨k1', (hw2.block _ (heap_lt k2) (fun x => x)).trans ?_⟩
        rw [k2]
        simp [upd]
      · intro hx hy
        exact p18_19 (by simpa [upd] using hx) (by simpa [upd] using hy)
      · simpa [upd] using hq18
      · simpa [upd] using hq19
      · have hh := hP0.fr hw2 (fun x => x)
        simpa [upd] using hh
      · have hh := hP1.fr hw2 (fun x => x)
        simpa [upd] using hh
      · simp [upd, Act.put, hr]
    | 13, ho =>
      injection ho with ho
      subst ho
      refine wp_quiet_here (.pointer (some ⟨gq, 0, none⟩)) (BigFrame.quiet_move _ rfl rfl) (fun w2 hw2 => ?_)
      refine ⟨g8, g9, hF.trans hw2.any, ?_, ?_, ?_, ?_, ?_, ?_, ?_, ?_⟩
      · intro hx
        replace hx : b 18 = true := by simpa [upd] using hx
        obtain ⟨k1', k2⟩ := h18 hx
        refine ⟨k1', (hw2.block _ (heap_lt k2) (fun x => x)).trans ?_⟩
        rw [k2]
        simp [upd]
      · intro hx
        replace hx : b 19 = true := by simpa [upd] using hx
        obtain ⟨k1', k2⟩ := h19 hx
        refine ⟨k1', (hw2.block _ (heap_lt k2) (fun x => x)).trans ?_⟩
        rw [k2]
        simp [upd]
      · intro hx hy
        exact p18_19 (by simpa [upd] using hx) (by simpa [upd] using hy)
      · simpa [upd] using hq18
      · simpa [upd] using hq19
      · have hh := hP0.fr hw2 (fun x => x)
        simpa [upd] using hh
      · have hh := hP1.fr hw2 (fun x => x)
        simpa [upd] using hh
      · simp [upd, Act.put]
    | 14, ho =>
      injection ho with ho
      subst ho
      simp [Region.binds] at hr
      have d13 : b 13 = true := by simp only [hr]
      simp only [hr, if_true]
      refine wp_quiet_here (.pointer (some ⟨gq, 0, none⟩)) ?_ (fun w2 hw2 => ?_)
      · go_big_quiet_op
        first
          | (simp [Act.put]; done)
          | exact ⟨_, fun _ _ => rfl, by simp [Act.put]⟩
      refine ⟨g8, g9, hF.trans hw2.any, ?_, ?_, ?_, ?_, ?_, ?_, ?_, ?_⟩
      · intro hx
        replace hx : b 18 = true := by simpa [upd] using hx
        obtain ⟨k1', k2⟩ := h18 hx
        refine ⟨k1', (hw2.block _ (heap_lt k2) (fun x => x)).trans ?_⟩
        rw [k2]
        simp [upd]
      · intro hx
        replace hx : b 19 = true := by simpa [upd] using hx
        obtain ⟨k1', k2⟩ := h19 hx
        refine ⟨k1', (hw2.block _ (heap_lt k2) (fun x => x)).trans ?_⟩
        rw [k2]
        simp [upd]
      · intro hx hy
        exact p18_19 (by simpa [upd] using hx) (by simpa [upd] using hy)
      · simpa [upd] using hq18
      · simpa [upd] using hq19
      · have hh := hP0.fr hw2 (fun x => x)
        simpa [upd] using hh
      · have hh := hP1.fr hw2 (fun x => x)
        simpa [upd] using hh
      · simp [upd, Act.put, hr]
    | 15, ho =>
      injection ho with ho
      subst ho
      simp [Region.binds] at hr
      have d14 : b 14 = true := by simp only [hr]
      simp only [hr, if_true]
      refine wp_quiet_here (.pointer (some ⟨gq, 4, none⟩)) ?_ (fun w2 hw2 => ?_)
      · go_big_quiet_op
        first
          | (simp [Act.put]; done)
          | exact ⟨_, fun _ _ => rfl, by simp [Act.put]⟩
      refine ⟨g8, g9, hF.trans hw2.any, ?_, ?_, ?_, ?_, ?_, ?_, ?_, ?_⟩
      · intro hx
        replace hx : b 18 = true := by simpa [upd] using hx
        obtain ⟨k1', k2⟩ := h18 hx
        refine ⟨k1', (hw2.block _ (heap_lt k2) (fun x => x)).trans ?_⟩
        rw [k2]
        simp [upd]
      · intro hx
        replace hx : b 19 = true := by simpa [upd] using hx
        obtain ⟨k1', k2⟩ := h19 hx
        refine ⟨k1', (hw2.block _ (heap_lt k2) (fun x => x)).trans ?_⟩
        rw [k2]
        simp [upd]
      · intro hx hy
        exact p18_19 (by simpa [upd] using hx) (by simpa [upd] using hy)
      · simpa [upd] using hq18
      · simpa [upd] using hq19
      · have hh := hP0.fr hw2 (fun x => x)
        simpa [upd] using hh
      · have hh := hP1.fr hw2 (fun x => x)
        simpa [upd] using hh
      · simp [upd, Act.put, hr]
    | 16, ho =>
      injection ho with ho
      subst ho
      simp [Region.binds] at hr
      have d15 : b 15 = true := by simp only [hr]
      simp only [hr, if_true]
      have hL := hP1
      refine wp_quiet_here _ (quiet_half (.tmp 48) rfl (gq) 4 rfl qz (fun _ h => (hL.fr h (fun x => x)).r1) rfl) (fun w2 hw2 => ?_)
      refine ⟨g8, g9, hF.trans hw2.any, ?_, ?_, ?_, ?_, ?_, ?_, ?_, ?_⟩
      · intro hx
        replace hx : b 18 = true := by simpa [upd] using hx
        obtain ⟨k1', k2⟩ := h18 hx
        refine ⟨k1', (hw2.block _ (heap_lt k2) (fun x => x)).trans ?_⟩
        rw [k2]
        simp [upd]
      · intro hx
        replace hx : b 19 = true := by simpa [upd] using hx
        obtain ⟨k1', k2⟩ := h19 hx
        refine ⟨k1', (hw2.block _ (heap_lt k2) (fun x => x)).trans ?_⟩
        rw [k2]
        simp [upd]
      · intro hx hy
        exact p18_19 (by simpa [upd] using hx) (by simpa [upd] using hy)
      · simpa [upd] using hq18
      · simpa [upd] using hq19
      · have hh := hP0.fr hw2 (fun x => x)
        simpa [upd] using hh
      · have hh := hP1.fr hw2 (fun x => x)
        simpa [upd] using hh
      · simp [upd, Act.put, hr]
    | 17, ho =>
      injection ho with ho
      subst ho
      simp [Region.binds] at hr
      have d12 : b 12 = true := by simp only [hr]
      have d16 : b 16 = true := by simp only [hr]
      simp only [hr, if_true]
      refine wp_quiet_here (.agg (ec vd)) ?_ (fun w2 hw2 => ?_)
      · go_big_quiet_op
        exact ⟨_, Calm.calls Cd, by simp [Act.put]⟩
      refine ⟨g8, g9, hF.trans hw2.any, ?_, ?_, ?_, ?_, ?_, ?_, ?_, ?_⟩
      · intro hx
        replace hx : b 18 = true := by simpa [upd] using hx
        obtain ⟨k1', k2⟩ := h18 hx
        refine ⟨k1', (hw2.block _ (heap_lt k2) (fun x => x)).trans ?_⟩
        rw [k2]
        simp [upd]
      · intro hx
        replace hx : b 19 = true := by simpa [upd] using hx
        obtain ⟨k1', k2⟩ := h19 hx
        refine ⟨k1', (hw2.block _ (heap_lt k2) (fun x => x)).trans ?_⟩
        rw [k2]
        simp [upd]
      · intro hx hy
        exact p18_19 (by simpa [upd] using hx) (by simpa [upd] using hy)
      · simpa [upd] using hq18
      · simpa [upd] using hq19
      · have hh := hP0.fr hw2 (fun x => x)
        simpa [upd] using hh
      · have hh := hP1.fr hw2 (fun x => x)
        simpa [upd] using hh
      · simp [upd, Act.put, hr]
    | 18, ho =>
      injection ho with ho
      subst ho
      refine wp_alloc_any 37 rfl (ec 0) ec_zero ?_
      refine ⟨w1.heap.size, g9, hF.alloc _, ?_, ?_, ?_, ?_, ?_, ?_, ?_, ?_⟩
      · intro _
        refine ⟨hF.size, (heap_alloc_new w1 _).trans ?_⟩
        have hs : b 20 = false := by
          rcases hbs : b 20 with _ | _
          · rfl
          · rw [hq18 hbs] at hb
            cases hb
        simp [upd, hs]
      · intro hx
        replace hx : b 19 = true := by simpa [upd] using hx
        obtain ⟨k1', k2⟩ := h19 hx
        refine ⟨k1', (Below.heap_alloc w1 _ _ (heap_lt k2)).trans ?_⟩
        rw [k2]
        simp [upd]
      · intro _ hy
        have := heap_lt (h19 (by simpa [upd] using hy)).2
        omega
      · simp [upd]
      · simpa [upd] using hq19
      · have hh := hP0.alloc (.cells (ec 0) 37)
        simpa [upd] using hh
      · have hh := hP1.alloc (.cells (ec 0) 37)
        simpa [upd] using hh
      · simp [upd, Act.put]
    | 19, ho =>
      injection ho with ho
      subst ho
      refine wp_alloc_any 37 rfl (ec 0) ec_zero ?_
      refine ⟨g8, w1.heap.size, hF.alloc _, ?_, ?_, ?_, ?_, ?_, ?_, ?_, ?_⟩
      · intro hx
        replace hx : b 18 = true := by simpa [upd] using hx
        obtain ⟨k1', k2⟩ := h18 hx
        refine ⟨k1', (Below.heap_alloc w1 _ _ (heap_lt k2)).trans ?_⟩
        rw [k2]
        simp [upd]
      · intro _
        refine ⟨hF.size, (heap_alloc_new w1 _).trans ?_⟩
        have hs : b 21 = false := by
          rcases hbs : b 21 with _ | _
          · rfl
          · rw [hq19 hbs] at hb
            cases hb
        simp [upd, hs]
      · intro hx _
        have := heap_lt (h18 (by simpa [upd] using hx)).2
        omega
      · simpa [upd] using hq18
      · simp [upd]
      · have hh := hP0.alloc (.cells (ec 0) 37)
        simpa [upd] using hh
      · have hh := hP1.alloc (.cells (ec 0) 37)
        simpa [upd] using hh
      · simp [upd, Act.put]
    | 20, ho =>
      injection ho with ho
      subst ho
      simp [Region.binds] at hr
      have d8 : b 8 = true := by simp only [hr]
      have d18 : b 18 = true := by simp only [hr]
      simp only [hr, if_true]
      obtain ⟨k1, k2⟩ := h18 d18
      rw [hb] at k2
      simp only [Bool.false_eq_true, if_false] at k2
      refine wp_store_row 37 (.tmp 8) (.tmp 41) rfl g8 (ec vc) rfl rfl 37 _ k2 (ec_info _) rfl (ec_all _) ?_
      refine ⟨g8, g9, hF.setRow _ (.inr k1), ?_, ?_, ?_, ?_, ?_, ?_, ?_, ?_⟩
      · intro _
        refine ⟨k1, (setRow_heap _ _ _ _ _ _ k2).trans ?_⟩
        simp [upd]
      · intro hx
        replace hx : b 19 = true := by simpa [upd] using hx
        obtain ⟨k1', k2⟩ := h19 hx
        refine ⟨k1', (setRow_other _ _ _ _ (fun e => (p18_19 (by simp [d8, d18, hx]) (by simp [d8, d18, hx])) e.symm)).trans ?_⟩
        rw [k2]
        simp [upd]
      · intro hx hy
        exact p18_19 (by simpa [upd] using hx) (by simpa [upd] using hy)
      · simp [upd, d18]
      · simpa [upd] using hq19
      · have hh := hP0.rowFar (g' := g8) (by have q := Z2_0.out.lt; omega) (ec vc)
        simpa [upd] using hh
      · have hh := hP1.rowFar (g' := g8) (by have q := Z2_1.out.lt; omega) (ec vc)
        simpa [upd] using hh
      · simp [upd, Act.put, hr]
    | 21, ho =>
      injection ho with ho
      subst ho
      simp [Region.binds] at hr
      have d17 : b 17 = true := by simp only [hr]
      have d19 : b 19 = true := by simp only [hr]
      simp only [hr, if_true]
      obtain ⟨k1, k2⟩ := h19 d19
      rw [hb] at k2
      simp only [Bool.false_eq_true, if_false] at k2
      refine wp_store_row 37 (.tmp 9) (.tmp 50) rfl g9 (ec vd) rfl rfl 37 _ k2 (ec_info _) rfl (ec_all _) ?_
      refine ⟨g8, g9, hF.setRow _ (.inr k1), ?_, ?_, ?_, ?_, ?_, ?_, ?_, ?_⟩
      · intro hx
        replace hx : b 18 = true := by simpa [upd] using hx
        obtain ⟨k1', k2⟩ := h18 hx
        refine ⟨k1', (setRow_other _ _ _ _ (fun e => (p18_19 (by simp [d17, d19, hx]) (by simp [d17, d19, hx])) e)).trans ?_⟩
        rw [k2]
        simp [upd]
      · intro _
        refine ⟨k1, (setRow_heap _ _ _ _ _ _ k2).trans ?_⟩
        simp [upd]
      · intro hx hy
        exact p18_19 (by simpa [upd] using hx) (by simpa [upd] using hy)
      · simpa [upd] using hq18
      · simp [upd, d19]
      · have hh := hP0.rowFar (g' := g9) (by have q := Z2_0.out.lt; omega) (ec vd)
        simpa [upd] using hh
      · have hh := hP1.rowFar (g' := g9) (by have q := Z2_1.out.lt; omega) (ec vd)
        simpa [upd] using hh
      · simp [upd, Act.put, hr]
    | j + 22, ho => exact absurd ho (by simp)
  intro b a W3 hall hI
  obtain ⟨g8, g9, hF, h18, h19, p18_19, hq18, hq19, hP0, hP1, rfl⟩ := hI
  have t0 : b 0 = true := hall 0 (by simp)
  have t1 : b 1 = true := hall 1 (by simp)
  have t2 : b 2 = true := hall 2 (by simp)
  have t3 : b 3 = true := hall 3 (by simp)
  have t4 : b 4 = true := hall 4 (by simp)
  have t5 : b 5 = true := hall 5 (by simp)
  have t6 : b 6 = true := hall 6 (by simp)
  have t7 : b 7 = true := hall 7 (by simp)
  have t8 : b 8 = true := hall 8 (by simp)
  have t9 : b 9 = true := hall 9 (by simp)
  have t10 : b 10 = true := hall 10 (by simp)
  have t11 : b 11 = true := hall 11 (by simp)
  have t12 : b 12 = true := hall 12 (by simp)
  have t13 : b 13 = true := hall 13 (by simp)
  have t14 : b 14 = true := hall 14 (by simp)
  have t15 : b 15 = true := hall 15 (by simp)
  have t16 : b 16 = true := hall 16 (by simp)
  have t17 : b 17 = true := hall 17 (by simp)
  have t18 : b 18 = true := hall 18 (by simp)
  have t19 : b 19 = true := hall 19 (by simp)
  have t20 : b 20 = true := hall 20 (by simp)
  have t21 : b 21 = true := hall 21 (by simp)
  simp only [t0, t1, t2, t3, t4, t5, t6, t7, t8, t9, t10, t11, t12, t13, t14, t15, t16, t17, t18, t19, t20, t21, if_true, true_implies] at h18 h19 p18_19 hq18 hq19 hP0 hP1 ⊢
  have F3 : Hid (Fr (fun k => k = gp ∨ k = gq) w W3) := F2.out.trans hF
  have X3_0 := Lib.hid ((hF.block _ (heap_lt X2_0.out) (HS.out _ (Nat.le_refl _))).trans X2_0.out)
  have X3_1 := Lib.hid ((hF.block _ (heap_lt X2_1.out) (HS.out _ Yg6)).trans X2_1.out)
  have X3_2 := Lib.hid ((hF.block _ (heap_lt X2_2.out) (HS.out _ Yg7)).trans X2_2.out)
  have X3_3 := Lib.hid h18.2
  have Yg8 : w.heap.size ≤ g8 := Nat.le_trans F2.out.size h18.1
  have X3_4 := Lib.hid h19.2
  have Yg9 : w.heap.size ≤ g9 := Nat.le_trans F2.out.size h19.1
  have Z3_0 := Lib.hid hP0
  have Z3_1 := Lib.hid hP1
  clear hall hF h18 h19 p18_19 hq18 hq19 hP0 hP1 t0 t1 t2 t3 t4 t5 t6 t7 t8 t9 t10 t11 t12 t13 t14 t15 t16 t17 t18 t19 t20 t21 X2_0 X2_1 X2_2 Z2_0 Z2_1 F2
  go_upto_region 3 with (fail)
  refine wp_region_inv2 (fun b a w' => ∃ g10 g11 : Nat, Fr (fun k => k = gp ∨ k = gq) W3 w' ∧ (b 4 = true → W3.heap.size ≤ g10 ∧ w'.heap[g10]? = some (.cells (if b 6 = true then ec vaa else ec 0) 37 (0, 0))) ∧ (b 5 = true → W3.heap.size ≤ g11 ∧ w'.heap[g11]? = some (.cells (if b 7 = true then ec vbb else ec 0) 37 (0, 0))) ∧ (b 4 = true → b 5 = true → g10 ≠ g11) ∧ (b 6 = true → b 4 = true) ∧ (b 7 = true → b 5 = true) ∧ P8 w' (gp) px pz ∧ P8 w' (gq) qx qz ∧ a = ⟨#[.pointer (some ⟨gp, 0, none⟩), .pointer (some ⟨gq, 0, none⟩), .agg (ec x1), undef, undef, .pointer (some ⟨w.heap.size, 0, none⟩), .pointer (some ⟨g6, 0, none⟩), .pointer (some ⟨g7, 0, none⟩), .pointer (some ⟨g8, 0, none⟩), .pointer (some ⟨g9, 0, none⟩), if b 4 = true then .pointer (some ⟨g10, 0, none⟩) else undef, if b 5 = true then .pointer (some ⟨g11, 0, none⟩) else undef, undef, undef, undef, .pointer (some ⟨gp, 0, none⟩), .pointer (some ⟨gp, 0, none⟩), .pointer (some ⟨gp, 0, none⟩), .agg (ec px), .pointer (some ⟨gp, 0, none⟩), .pointer (some ⟨gp, 0, none⟩), .pointer (some ⟨gp, 4, none⟩), .agg (ec pz), .agg (ec va), .pointer (some ⟨gp, 0, none⟩), .pointer (some ⟨gp, 0, none⟩), .pointer (some ⟨gp, 0, none⟩), .agg (ec px), .pointer (some ⟨gp, 0, none⟩), .pointer (some ⟨gp, 0, none⟩), .pointer (some ⟨gp, 4, none⟩), .agg (ec pz), .agg (ec vb), .pointer (some ⟨gq, 0, none⟩), .pointer (some ⟨gq, 0, none⟩), .pointer (some ⟨gq, 0, none⟩), .agg (ec qx), .pointer (some ⟨gq, 0, none⟩), .pointer (some ⟨gq, 0, none⟩), .pointer (some ⟨gq, 4, none⟩), .agg (ec qz), .agg (ec vc), .pointer (some ⟨gq, 0, none⟩), .pointer (some ⟨gq, 0, none⟩), .pointer (some ⟨gq, 0, none⟩), .agg (ec qx), .pointer (some ⟨gq, 0, none⟩), .pointer (some ⟨gq, 0, none⟩), .pointer (some ⟨gq, 4, none⟩), .agg (ec qz), .agg (ec vd), if b 0 = true then .agg (ec va) else undef, if b 1 = true then .agg (ec vaa) else undef, if b 2 = true then .agg (ec vb) else undef, if b 3 = true then .agg (ec vbb) else undef, undef, undef, undef, undef, undef, undef, undef, undef, undef, undef, undef, undef, undef, undef, undef, undef, undef, undef, undef, undef, undef, undef, undef, undef, undef, undef, undef, undef, undef, undef, undef, undef, undef, undef, undef, undef, undef, undef, undef, undef, undef], []⟩) (by kernel_rfl) (by kernel_rfl) ?start3 ?step3 ?done3
  case start3 => exact ⟨0, 0, ⟨rfl, rfl, rfl, Nat.le_refl _, fun _ _ _ => rfl⟩, by simp, by simp, by simp, by simp, by simp, Z3_0.out, Z3_1.out, by simp⟩
  case step3 =>
    intro i o b a w1 ho hI hb hr hc
    obtain ⟨g10, g11, hF, h4, h5, p4_5, hq4, hq5, hP0, hP1, rfl⟩ := hI
    match i, ho with
    | 0, ho =>
      injection ho with ho
      subst ho
      refine wp_quiet_here _ (quiet_load 37 (.tmp 6) rfl (g6) rfl 37 _ (0, 0) _ (fun _ h => (Fr.block h _ (Nat.lt_of_lt_of_le (heap_lt X3_1.out) hF.size) (fun x => x)).trans ((hF.block _ (heap_lt X3_1.out) (HS.out _ Yg6)).trans X3_1.out)) Try.underlying37 rfl (ec_info _) rfl) (fun w2 hw2 => ?_)
      refine ⟨g10, g11, hF.trans hw2.any, ?_, ?_, ?_, ?_, ?_, ?_, ?_, ?_⟩
      · intro hx
        replace hx : b 4 = true := by simpa [upd] using hx
        obtain ⟨k1', k2⟩ := h4 hx
        refine ⟨k1', (hw2.block _ (heap_lt k2) (fun x => x)).trans ?_⟩
        rw [k2]
        simp [upd]
      · intro hx
        replace hx : b 5 = true := by simpa [upd] using hx
        obtain ⟨k1', k2⟩ := h5 hx
        refine ⟨k1', (hw2.block _ (heap_lt k2) (fun x => x)).trans ?_⟩
        rw [k2]
        simp [upd]
      · intro hx hy
        exact p4_5 (by simpa [upd] using hx) (by simpa [upd] using hy)
      · simpa [upd] using hq4
      · simpa [upd] using hq5
      · have hh := hP0.fr hw2 (fun x => x)
        simpa [upd] using hh
      · have hh := hP1.fr hw2 (fun x => x)
        simpa [upd] using hh
      · simp [upd, Act.put]
    | 1, ho =>
      injection ho with ho
      subst ho
      simp [Region.binds] at hr
      have d0 : b 0 = true := by simp only [hr]
      simp only [hr, if_true]
      refine wp_quiet_here (.agg (ec vaa)) ?_ (fun w2 hw2 => ?_)
      · go_big_quiet_op
        exact ⟨_, Calm.calls Caa, by simp [Act.put]⟩
      refine ⟨g10, g11, hF.trans hw2.any, ?_, ?_, ?_, ?_, ?_, ?_, ?_, ?_⟩
      · intro hx
        replace hx : b 4 = true := by simpa [upd] using hx
        obtain ⟨k1', k2⟩ := h4 hx
        refine ⟨k1', (hw2.block _ (heap_lt k2) (fun x => x)).trans ?_⟩
        rw [k2]
        simp [upd]
      · intro hx
        replace hx : b 5 = true := by simpa [upd] using hx
        obtain ⟨k1', k2⟩ := h5 hx
        refine ⟨k1', (hw2.block _ (heap_lt k2) (fun x => x)).trans ?_⟩
        rw [k2]
        simp [upd]
      · intro hx hy
        exact p4_5 (by simpa [upd] using hx) (by simpa [upd] using hy)
      · simpa [upd] using hq4
      · simpa [upd] using hq5
      · have hh := hP0.fr hw2 (fun x => x)
        simpa [upd] using hh
      · have hh := hP1.fr hw2 (fun x => x)
        simpa [upd] using hh
      · simp [upd, Act.put, hr]
    | 2, ho =>
      injection ho with ho
      subst ho
      refine wp_quiet_here _ (quiet_load 37 (.tmp 7) rfl (g7) rfl 37 _ (0, 0) _ (fun _ h => (Fr.block h _ (Nat.lt_of_lt_of_le (heap_lt X3_2.out) hF.size) (fun x => x)).trans ((hF.block _ (heap_lt X3_2.out) (HS.out _ Yg7)).trans X3_2.out)) Try.underlying37 rfl (ec_info _) rfl) (fun w2 hw2 => ?_)
      refine ⟨g10, g11, hF.trans hw2.any, ?_, ?_, ?_, ?_, ?_, ?_, ?_, ?_⟩
      · intro hx
        replace hx : b 4 = true := by simpa [upd] using hx
        obtain ⟨k1', k2⟩ := h4 hx
        refine ⟨k1', (hw2.block _ (heap_lt k2) (fun x => x)).trans ?_⟩
        rw [k2]
        simp [upd]
      · intro hx
        replace hx : b 5 = true := by simpa [upd] using hx
        obtain ⟨k1', k2⟩ := h5 hx
        refine ⟨k1', (hw2.block _ (heap_lt k2) (fun x => x)).trans ?_⟩
        rw [k2]
        simp [upd]
      · intro hx hy
        exact p4_5 (by simpa [upd] using hx) (by simpa [upd] using hy)
      · simpa [upd] using hq4
      · simpa [upd] using hq5
      · have hh := hP0.fr hw2 (fun x => x)
        simpa [upd] using hh
      · have hh := hP1.fr hw2 (fun x => x)
        simpa [upd] using hh
      · simp [upd, Act.put]
    | 3, ho =>
      injection ho with ho
      subst ho
      simp [Region.binds] at hr
      have d2 : b 2 = true := by simp only [hr]
      simp only [hr, if_true]
      refine wp_quiet_here (.agg (ec vbb)) ?_ (fun w2 hw2 => ?_)
      · go_big_quiet_op
        exact ⟨_, Calm.calls Cbb, by simp [Act.put]⟩
      refine ⟨g10, g11, hF.trans hw2.any, ?_, ?_, ?_, ?_, ?_, ?_, ?_, ?_⟩
      · intro hx
        replace hx : b 4 = true := by simpa [upd] using hx
        obtain ⟨k1', k2⟩ := h4 hx
        refine ⟨k1', (hw2.block _ (heap_lt k2) (fun x => x)).trans ?_⟩
        rw [k2]
        simp [upd]
      · intro hx
        replace hx : b 5 = true := by simpa [upd] using hx
        obtain ⟨k1', k2⟩ := h5 hx
        refine ⟨k1', (hw2.block _ (heap_lt k2) (fun x => x)).trans ?_⟩
        rw [k2]
        simp [upd]
      · intro hx hy
        exact p4_5 (by simpa [upd] using hx) (by simpa [upd] using hy)
      · simpa [upd] using hq4
      · simpa [upd] using hq5
      · have hh := hP0.fr hw2 (fun x => x)
        simpa [upd] using hh
      · have hh := hP1.fr hw2 (fun x => x)
        simpa [upd] using hh
      · simp [upd, Act.put, hr]
    | 4, ho =>
      injection ho with ho
      subst ho
      refine wp_alloc_any 37 rfl (ec 0) ec_zero ?_
      refine ⟨w1.heap.size, g11, hF.alloc _, ?_, ?_, ?_, ?_, ?_, ?_, ?_, ?_⟩
      · intro _
        refine ⟨hF.size, (heap_alloc_new w1 _).trans ?_⟩
        have hs : b 6 = false := by
          rcases hbs : b 6 with _ | _
          · rfl
          · rw [hq4 hbs] at hb
            cases hb
        simp [upd, hs]
      · intro hx
        replace hx : b 5 = true := by simpa [upd] using hx
        obtain ⟨k1', k2⟩ := h5 hx
        refine ⟨k1', (Below.heap_alloc w1 _ _ (heap_lt k2)).trans ?_⟩
        rw [k2]
        simp [upd]
      · intro _ hy
        have := heap_lt (h5 (by simpa [upd] using hy)).2
        omega
      · simp [upd]
      · simpa [upd] using hq5
      · have hh := hP0.alloc (.cells (ec 0) 37)
        simpa [upd] using hh
      · have hh := hP1.alloc (.cells (ec 0) 37)
        simpa [upd] using hh
      · simp [upd, Act.put]
    | 5, ho =>
      injection ho with ho
      subst ho
      refine wp_alloc_any 37 rfl (ec 0) ec_zero ?_
      refine ⟨g10, w1.heap.size, hF.alloc _, ?_, ?_, ?_, ?_, ?_, ?_, ?_, ?_⟩
      · intro hx
        replace hx : b 4 = true := by simpa [upd] using hx
        obtain ⟨k1', k2⟩ := h4 hx
        refine ⟨k1', (Below.heap_alloc w1 _ _ (heap_lt k2)).trans ?_⟩
        rw [k2]
        simp [upd]
      · intro _
        refine ⟨hF.size, (heap_alloc_new w1 _).trans ?_⟩
        have hs : b 7 = false := by
          rcases hbs : b 7 with _ | _
          · rfl
          · rw [hq5 hbs] at hb
            cases hb
        simp [upd, hs]
      · intro hx _
        have := heap_lt (h4 (by simpa [upd] using hx)).2
        omega
      · simpa [upd] using hq4
      · simp [upd]
      · have hh := hP0.alloc (.cells (ec 0) 37)
        simpa [upd] using hh
      · have hh := hP1.alloc (.cells (ec 0) 37)
        simpa [upd] using hh
      · simp [upd, Act.put]
    | 6, ho =>
      injection ho with ho
      subst ho
      simp [Region.binds] at hr
      have d1 : b 1 = true := by simp only [hr]
      have d4 : b 4 = true := by simp only [hr]
      simp only [hr, if_true]
      obtain ⟨k1, k2⟩ := h4 d4
      rw [hb] at k2
      simp only [Bool.false_eq_true, if_false] at k2
      refine wp_store_row 37 (.tmp 10) (.tmp 52) rfl g10 (ec vaa) rfl rfl 37 _ k2 (ec_info _) rfl (ec_all _) ?_
      refine ⟨g10, g11, hF.setRow _ (.inr k1), ?_, ?_, ?_, ?_, ?_, ?_, ?_, ?_⟩
      · intro _
        refine ⟨k1, (setRow_heap _ _ _ _ _ _ k2).trans ?_⟩
        simp [upd]
      · intro hx
        replace hx : b 5 = true := by simpa [upd] using hx
        obtain ⟨k1', k2⟩ := h5 hx
        refine ⟨k1', (setRow_other _ _ _ _ (fun e => (p4_5 (by simp [d1, d4, hx]) (by simp [d1, d4, hx])) e.symm)).trans ?_⟩
        rw [k2]
        simp [upd]
      · intro hx hy
        exact p4_5 (by simpa [upd] using hx) (by simpa [upd] using hy)
      · simp [upd, d4]
      · simpa [upd] using hq5
      · have hh := hP0.rowFar (g' := g10) (by have q := Z3_0.out.lt; omega) (ec vaa)
        simpa [upd] using hh
      · have hh := hP1.rowFar (g' := g10) (by have q := Z3_1.out.lt; omega) (ec vaa)
        simpa [upd] using hh
      · simp [upd, Act.put, hr]
    | 7, ho =>
      injection ho with ho
      subst ho
      simp [Region.binds] at hr
      have d3 : b 3 = true := by simp only [hr]
      have d5 : b 5 = true := by simp only [hr]
      simp only [hr, if_true]
      obtain ⟨k1, k2⟩ := h5 d5
      rw [hb] at k2
      simp only [Bool.false_eq_true, if_false] at k2
      refine wp_store_row 37 (.tmp 11) (.tmp 54) rfl g11 (ec vbb) rfl rfl 37 _ k2 (ec_info _) rfl (ec_all _) ?_
      refine ⟨g10, g11, hF.setRow _ (.inr k1), ?_, ?_, ?_, ?_, ?_, ?_, ?_, ?_⟩
      · intro hx
        replace hx : b 4 = true := by simpa [upd] using hx
        obtain ⟨k1', k2⟩ := h4 hx
        refine ⟨k1', (setRow_other _ _ _ _ (fun e => (p4_5 (by simp [d3, d5, hx]) (by simp [d3, d5, hx])) e)).trans ?_⟩
        rw [k2]
        simp [upd]
      · intro _
        refine ⟨k1, (setRow_heap _ _ _ _ _ _ k2).trans ?_⟩
        simp [upd]
      · intro hx hy
        exact p4_5 (by simpa [upd] using hx) (by simpa [upd] using hy)
      · simpa [upd] using hq4
      · simp [upd, d5]
      · have hh := hP0.rowFar (g' := g11) (by have q := Z3_0.out.lt; omega) (ec vbb)
        simpa [upd] using hh
      · have hh := hP1.rowFar (g' := g11) (by have q := Z3_1.out.lt; omega) (ec vbb)
        simpa [upd] using hh
      · simp [upd, Act.put, hr]
    | j + 8, ho => exact absurd ho (by simp)
  intro b a W4 hall hI
  obtain ⟨g10, g11, hF, h4, h5, p4_5, hq4, hq5, hP0, hP1, rfl⟩ := hI
  have t0 : b 0 = true := hall 0 (by simp)
  have t1 : b 1 = true := hall 1 (by simp)
  have t2 : b 2 = true := hall 2 (by simp)
  have t3 : b 3 = true := hall 3 (by simp)
  have t4 : b 4 = true := hall 4 (by simp)
  have t5 : b 5 = true := hall 5 (by simp)
  have t6 : b 6 = true := hall 6 (by simp)
  have t7 : b 7 = true := hall 7 (by simp)
  simp only [t0, t1, t2, t3, t4, t5, t6, t7, if_true, true_implies] at h4 h5 p4_5 hq4 hq5 hP0 hP1 ⊢
  have F4 : Hid (Fr (fun k => k = gp ∨ k = gq) w W4) := F3.out.trans hF
  have X4_0 := Lib.hid ((hF.block _ (heap_lt X3_0.out) (HS.out _ (Nat.le_refl _))).trans X3_0.out)
  have X4_1 := Lib.hid ((hF.block _ (heap_lt X3_1.out) (HS.out _ Yg6)).trans X3_1.out)
  have X4_2 := Lib.hid ((hF.block _ (heap_lt X3_2.out) (HS.out _ Yg7)).trans X3_2.out)
  have X4_3 := Lib.hid ((hF.block _ (heap_lt X3_3.out) (HS.out _ Yg8)).trans X3_3.out)
  have X4_4 := Lib.hid ((hF.block _ (heap_lt X3_4.out) (HS.out _ Yg9)).trans X3_4.out)
  have X4_5 := Lib.hid h4.2
  have Yg10 : w.heap.size ≤ g10 := Nat.le_trans F3.out.size h4.1
  have X4_6 := Lib.hid h5.2
  have Yg11 : w.heap.size ≤ g11 := Nat.le_trans F3.out.size h5.1
  have Z4_0 := Lib.hid hP0
  have Z4_1 := Lib.hid hP1
  clear hall hF h4 h5 p4_5 hq4 hq5 hP0 hP1 t0 t1 t2 t3 t4 t5 t6 t7 X3_0 X3_1 X3_2 X3_3 X3_4 Z3_0 Z3_1 F3
  go_upto_region 4 with (fail)
  refine wp_region_inv2 (fun b a w' => ∃ g12 g13 : Nat, Fr (fun k => k = gp ∨ k = gq) W4 w' ∧ (b 6 = true → W4.heap.size ≤ g12 ∧ w'.heap[g12]? = some (.cells (if b 8 = true then ec vda else ec 0) 37 (0, 0))) ∧ (b 7 = true → W4.heap.size ≤ g13 ∧ w'.heap[g13]? = some (.cells (if b 9 = true then ec vcb else ec 0) 37 (0, 0))) ∧ (b 6 = true → b 7 = true → g12 ≠ g13) ∧ (b 8 = true → b 6 = true) ∧ (b 9 = true → b 7 = true) ∧ P8 w' (gp) px pz ∧ P8 w' (gq) qx qz ∧ a = ⟨#[.pointer (some ⟨gp, 0, none⟩), .pointer (some ⟨gq, 0, none⟩), .agg (ec x1), undef, undef, .pointer (some ⟨w.heap.size, 0, none⟩), .pointer (some ⟨g6, 0, none⟩), .pointer (some ⟨g7, 0, none⟩), .pointer (some ⟨g8, 0, none⟩), .pointer (some ⟨g9, 0, none⟩), .pointer (some ⟨g10, 0, none⟩), .pointer (some ⟨g11, 0, none⟩), if b 6 = true then .pointer (some ⟨g12, 0, none⟩) else undef, if b 7 = true then .pointer (some ⟨g13, 0, none⟩) else undef, undef, .pointer (some ⟨gp, 0, none⟩), .pointer (some ⟨gp, 0, none⟩), .pointer (some ⟨gp, 0, none⟩), .agg (ec px), .pointer (some ⟨gp, 0, none⟩), .pointer (some ⟨gp, 0, none⟩), .pointer (some ⟨gp, 4, none⟩), .agg (ec pz), .agg (ec va), .pointer (some ⟨gp, 0, none⟩), .pointer (some ⟨gp, 0, none⟩), .pointer (some ⟨gp, 0, none⟩), .agg (ec px), .pointer (some ⟨gp, 0, none⟩), .pointer (some ⟨gp, 0, none⟩), .pointer (some ⟨gp, 4, none⟩), .agg (ec pz), .agg (ec vb), .pointer (some ⟨gq, 0, none⟩), .pointer (some ⟨gq, 0, none⟩), .pointer (some ⟨gq, 0, none⟩), .agg (ec qx), .pointer (some ⟨gq, 0, none⟩), .pointer (some ⟨gq, 0, none⟩), .pointer (some ⟨gq, 4, none⟩), .agg (ec qz), .agg (ec vc), .pointer (some ⟨gq, 0, none⟩), .pointer (some ⟨gq, 0, none⟩), .pointer (some ⟨gq, 0, none⟩), .agg (ec qx), .pointer (some ⟨gq, 0, none⟩), .pointer (some ⟨gq, 0, none⟩), .pointer (some ⟨gq, 4, none⟩), .agg (ec qz), .agg (ec vd), .agg (ec va), .agg (ec vaa), .agg (ec vb), .agg (ec vbb), if b 0 = true then .agg (ec vd) else undef, if b 1 = true then .agg (ec va) else undef, if b 2 = true then .agg (ec vda) else undef, if b 3 = true then .agg (ec vc) else undef, if b 4 = true then .agg (ec vb) else undef, if b 5 = true then .agg (ec vcb) else undef, undef, undef, undef, undef, undef, undef, undef, undef, undef, undef, undef, undef, undef, undef, undef, undef, undef, undef, undef, undef, undef, undef, undef, undef, undef, undef, undef, undef, undef, undef, undef, undef, undef, undef, undef], []⟩) (by kernel_rfl) (by kernel_rfl) ?start4 ?step4 ?done4
  case start4 => exact ⟨0, 0, ⟨rfl, rfl, rfl, Nat.le_refl _, fun _ _ _ => rfl⟩, by simp, by simp, by simp, by simp, by simp, Z4_0.out, Z4_1.out, by simp⟩
  case step4 =>
    intro i o b a w1 ho hI hb hr hc
    obtain ⟨g12, g13, hF, h6, h7, p6_7, hq6, hq7, hP0, hP1, rfl⟩ := hI
    match i, ho with
    | 0, ho =>
      injection ho with ho
      subst ho
      refine wp_quiet_here _ (quiet_load 37 (.tmp 9) rfl (g9) rfl 37 _ (0, 0) _ (fun _ h => (Fr.block h _ (Nat.lt_of_lt_of_le (heap_lt X4_4.out) hF.size) (fun x => x)).trans ((hF.block _ (heap_lt X4_4.out) (HS.out _ Yg9)).trans X4_4.out)) Try.underlying37 rfl (ec_info _) rfl) (fun w2 hw2 => ?_)
      refine ⟨g12, g13, hF.trans hw2.any, ?_, ?_, ?_, ?_, ?_, ?_, ?_, ?_⟩
      · intro hx
        replace hx : b 6 = true := by simpa [upd] using hx
        obtain ⟨k1', k2⟩ := h6 hx
        refine ⟨k1', (hw2.block _ (heap_lt k2) (fun x => x)).trans ?_⟩
        rw [k2]
        simp [upd]
      · intro hx
        replace hx : b 7 = true := by simpa [upd] using hx
        obtain ⟨k1', k2⟩ := h7 hx
        refine ⟨k1', (hw2.block _ (heap_lt k2) (fun x => x)).trans ?_⟩
        rw [k2]
        simp [upd]
      · intro hx hy
        exact p6_7 (by simpa [upd] using hx) (by simpa [upd] using hy)
      · simpa [upd] using hq6
      · simpa [upd] using hq7
      · have hh := hP0.fr hw2 (fun x => x)
        simpa [upd] using hh
      · have hh := hP1.fr hw2 (fun x => x)
        simpa [upd] using hh
      · simp [upd, Act.put]
    | 1, ho =>
      injection ho with ho
      subst ho
      refine wp_quiet_here _ (quiet_load 37 (.tmp 6) rfl (g6) rfl 37 _ (0, 0) _ (fun _ h => (Fr.block h _ (Nat.lt_of_lt_of_le (heap_lt X4_1.out) hF.size) (fun x => x)).trans ((hF.block _ (heap_lt X4_1.out) (HS.out _ Yg6)).trans X4_1.out)) Try.underlying37 rfl (ec_info _) rfl) (fun w2 hw2 => ?_)
      refine ⟨g12, g13, hF.trans hw2.any, ?_, ?_, ?_, ?_, ?_, ?_, ?_, ?_⟩
      · intro hx
        replace hx : b 6 = true := by simpa [upd] using hx
        obtain ⟨k1', k2⟩ := h6 hx
        refine ⟨k1', (hw2.block _ (heap_lt k2) (fun x => x)).trans ?_⟩
        rw [k2]
        simp [upd]
      · intro hx
        replace hx : b 7 = true := by simpa [upd] using hx
        obtain ⟨k1', k2⟩ := h7 hx
        refine ⟨k1', (hw2.block _ (heap_lt k2) (fun x => x)).trans ?_⟩
        rw [k2]
        simp [upd]
      · intro hx hy
        exact p6_7 (by simpa [upd] using hx) (by simpa [upd] using hy)
      · simpa [upd] using hq6
      · simpa [upd] using hq7
      · have hh := hP0.fr hw2 (fun x => x)
        simpa [upd] using hh
      · have hh := hP1.fr hw2 (fun x => x)
        simpa [upd] using hh
      · simp [upd, Act.put]
    | 2, ho =>
      injection ho with ho
      subst ho
      simp [Region.binds] at hr
      have d0 : b 0 = true := by simp only [hr]
      have d1 : b 1 = true := by simp only [hr]
      simp only [hr, if_true]
      refine wp_quiet_here (.agg (ec vda)) ?_ (fun w2 hw2 => ?_)
      · go_big_quiet_op
        exact ⟨_, Calm.calls Cda, by simp [Act.put]⟩
      refine ⟨g12, g13, hF.trans hw2.any, ?_, ?_, ?_, ?_, ?_, ?_, ?_, ?_⟩
      · intro hx
        replace hx : b 6 = true := by simpa [upd] using hx
        obtain ⟨k1', k2⟩ := h6 hx
        refine ⟨k1', (hw2.block _ (heap_lt k2) (fun x => x)).trans ?_⟩
        rw [k2]
        simp [upd]
      · intro hx
        replace hx : b 7 = true := by simpa [upd] using hx
        obtain ⟨k1', k2⟩ := h7 hx
        refine ⟨k1', (hw2.block _ (heap_lt k2) (fun x => x)).trans ?_⟩
        rw [k2]
        simp [upd]
      · intro hx hy
        exact p6_7 (by simpa [upd] using hx) (by simpa [upd] using hy)
      · simpa [upd] using hq6
      · simpa [upd] using hq7
      · have hh := hP0.fr hw2 (fun x => x)
        simpa [upd] using hh
      · have hh := hP1.fr hw2 (fun x => x)
        simpa [upd] using hh
      · simp [upd, Act.put, hr]
    | 3, ho =>
      injection ho with ho
      subst ho
      refine wp_quiet_here _ (quiet_load 37 (.tmp 8) rfl (g8) rfl 37 _ (0, 0) _ (fun _ h => (Fr.block h _ (Nat.lt_of_lt_of_le (heap_lt X4_3.out) hF.size) (fun x => x)).trans ((hF.block _ (heap_lt X4_3.out) (HS.out _ Yg8)).trans X4_3.out)) Try.underlying37 rfl (ec_info _) rfl) (fun w2 hw2 => ?_)
      refine ⟨g12, g13, hF.trans hw2.any, ?_, ?_, ?_, ?_, ?_, ?_, ?_, ?_⟩
      · intro hx
        replace hx : b 6 = true := by simpa [upd] using hx
        obtain ⟨k1', k2⟩ := h6 hx
        refine ⟨k1', (hw2.block _ (heap_lt k2) (fun x => x)).trans ?_⟩
        rw [k2]
        simp [upd]
      · intro hx
        replace hx : b 7 = true := by simpa [upd] using hx
        obtain ⟨k1', k2⟩ := h7 hx
        refine ⟨k1', (hw2.block _ (heap_lt k2) (fun x => x)).trans ?_⟩
        rw [k2]
        simp [upd]
      · intro hx hy
        exact p6_7 (by simpa [upd] using hx) (by simpa [upd] using hy)
      · simpa [upd] using hq6
      · simpa [upd] using hq7
      · have hh := hP0.fr hw2 (fun x => x)
        simpa [upd] using hh
      · have hh := hP1.fr hw2 (fun x => x)
        simpa [upd] using hh
      · simp [upd, Act.put]
    | 4, ho =>
      injection ho with ho
      subst ho
      refine wp_quiet_here _ (quiet_load 37 (.tmp 7) rfl (g7) rfl 37 _ (0, 0) _ (fun _ h => (Fr.block h _ (Nat.lt_of_lt_of_le (heap_lt X4_2.out) hF.size) (fun x => x)).trans ((hF.block _ (heap_lt X4_2.out) (HS.out _ Yg7)).trans X4_2.out)) Try.underlying37 rfl (ec_info _) rfl) (fun w2 hw2 => ?_)
      refine ⟨g12, g13, hF.trans hw2.any, ?_, ?_, ?_, ?_, ?_, ?_, ?_, ?_⟩
      · intro hx
        replace hx : b 6 = true := by simpa [upd] using hx
        obtain ⟨k1', k2⟩ := h6 hx
        refine ⟨k1', (hw2.block _ (heap_lt k2) (fun x => x)).trans ?_⟩
        rw [k2]
        simp [upd]
      · intro hx
        replace hx : b 7 = true := by simpa [upd] using hx
        obtain ⟨k1', k2⟩ := h7 hx
        refine ⟨k1', (hw2.block _ (heap_lt k2) (fun x => x)).trans ?_⟩
        rw [k2]
        simp [upd]
      · intro hx hy
        exact p6_7 (by simpa [upd] using hx) (by simpa [upd] using hy)
      · simpa [upd] using hq6
      · simpa [upd] using hq7
      · have hh := hP0.fr hw2 (fun x => x)
        simpa [upd] using hh
      · have hh := hP1.fr hw2 (fun x => x)
        simpa [upd] using hh
      · simp [upd, Act.put]
    | 5, ho =>
      injection ho with ho
      subst ho
      simp [Region.binds] at hr
      have d3 : b 3 = true := by simp only [hr]
      have d4 : b 4 = true := by simp only [hr]
      simp only [hr, if_true]
      refine wp_quiet_here (.agg (ec vcb)) ?_ (fun w2 hw2 => ?_)
      · go_big_quiet_op
        exact ⟨_, Calm.calls Ccb, by simp [Act.put]⟩
      refine ⟨g12, g13, hF.trans hw2.any, ?_, ?_, ?_, ?_, ?_, ?_, ?_, ?_⟩
      · intro hx
        replace hx : b 6 = true := by simpa [upd] using hx
        obtain ⟨k1', k2⟩ := h6 hx
        refine ⟨k1', (hw2.block _ (heap_lt k2) (fun x => x)).trans ?_⟩
        rw [k2]
        simp [upd]
      · intro hx
        replace hx : b 7 = true := by simpa [upd] using hx
        obtain ⟨k1', k2⟩ := h7 hx
        refine ⟨k1', (hw2.block _ (heap_lt k2) (fun x => x)).trans ?_⟩
        rw [k2]
        simp [upd]
      · intro hx hy
        exact p6_7 (by simpa [upd] using hx) (by simpa [upd] using hy)
      · simpa [upd] using hq6
      · simpa [upd] using hq7
      · have hh := hP0.fr hw2 (fun x => x)
        simpa [upd] using hh
      · have hh := hP1.fr hw2 (fun x => x)
        simpa [upd] using hh
      · simp [upd, Act.put, hr]
    | 6, ho =>
      injection ho with ho
      subst ho
      refine wp_alloc_any 37 rfl (ec 0) ec_zero ?_
      refine ⟨w1.heap.size, g13, hF.alloc _, ?_, ?_, ?_, ?_, ?_, ?_, ?_, ?_⟩
      · intro _
        refine ⟨hF.size, (heap_alloc_new w1 _).trans ?_⟩
        have hs : b 8 = false := by
          rcases hbs : b 8 with _ | _
          · rfl
          · rw [hq6 hbs] at hb
            cases hb
        simp [upd, hs]
      · intro hx
        replace hx : b 7 = true := by simpa [upd] using hx
        obtain ⟨k1', k2⟩ := h7 hx
        refine ⟨k1', (Below.heap_alloc w1 _ _ (heap_lt k2)).trans ?_⟩
        rw [k2]
        simp [upd]
      · intro _ hy
        have := heap_lt (h7 (by simpa [upd] using hy)).2
        omega
      · simp [upd]
      · simpa [upd] using hq7
      · have hh := hP0.alloc (.cells (ec 0) 37)
        simpa [upd] using hh
      · have hh := hP1.alloc (.cells (ec 0) 37)
        simpa [upd] using hh
      · simp [upd, Act.put]
    | 7, ho =>
      injection ho with ho
      subst ho
      refine wp_alloc_any 37 rfl (ec 0) ec_zero ?_
      refine ⟨g12, w1.heap.size, hF.alloc _, ?_, ?_, ?_, ?_, ?_, ?_, ?_, ?_⟩
      · intro hx
        replace hx : b 6 = true := by simpa [upd] using hx
        obtain ⟨k1', k2⟩ := h6 hx
        refine ⟨k1', (Below.heap_alloc w1 _ _ (heap_lt k2)).trans ?_⟩
        rw [k2]
        simp [upd]
      · intro _
        refine ⟨hF.size, (heap_alloc_new w1 _).trans ?_⟩
        have hs : b 9 = false := by
          rcases hbs : b 9 with _ | _
          · rfl
          · rw [hq7 hbs] at hb
            cases hb
        simp [upd, hs]
      · intro hx _
        have := heap_lt (h6 (by simpa [upd] using hx)).2
        omega
      · simpa [upd] using hq6
      · simp [upd]
      · have hh := hP0.alloc (.cells (ec 0) 37)
        simpa [upd] using hh
      · have hh := hP1.alloc (.cells (ec 0) 37)
        simpa [upd] using hh
      · simp [upd, Act.put]
    | 8, ho =>
      injection ho with ho
      subst ho
      simp [Region.binds] at hr
      have d2 : b 2 = true := by simp only [hr]
      have d6 : b 6 = true := by simp only [hr]
      simp only [hr, if_true]
      obtain ⟨k1, k2⟩ := h6 d6
      rw [hb] at k2
      simp only [Bool.false_eq_true, if_false] at k2
      refine wp_store_row 37 (.tmp 12) (.tmp 57) rfl g12 (ec vda) rfl rfl 37 _ k2 (ec_info _) rfl (ec_all _) ?_
      refine ⟨g12, g13, hF.setRow _ (.inr k1), ?_, ?_, ?_, ?_, ?_, ?_, ?_, ?_⟩
      · intro _
        refine ⟨k1, (setRow_heap _ _ _ _ _ _ k2).trans ?_⟩
        simp [upd]
      · intro hx
        replace hx : b 7 = true := by simpa [upd] using hx
        obtain ⟨k1', k2⟩ := h7 hx
        refine ⟨k1', (setRow_other _ _ _ _ (fun e => (p6_7 (by simp [d2, d6, hx]) (by simp [d2, d6, hx])) e.symm)).trans ?_⟩
        rw [k2]
        simp [upd]
      · intro hx hy
        exact p6_7 (by simpa [upd] using hx) (by simpa [upd] using hy)
      · simp [upd, d6]
      · simpa [upd] using hq7
      · have hh := hP0.rowFar (g' := g12) (by have q := Z4_0.out.lt; omega) (ec vda)
        simpa [upd] using hh
      · have hh := hP1.rowFar (g' := g12) (by have q := Z4_1.out.lt; omega) (ec vda)
        simpa [upd] using hh
      · simp [upd, Act.put, hr]
    | 9, ho =>
      injection ho with ho
      subst ho
      simp [Region.binds] at hr
      have d5 : b 5 = true := by simp only [hr]
      have d7 : b 7 = true := by simp only [hr]
      simp only [hr, if_true]
      obtain ⟨k1, k2⟩ := h7 d7
      rw [hb] at k2
      simp only [Bool.false_eq_true, if_false] at k2
      refine wp_store_row 37 (.tmp 13) (.tmp 60) rfl g13 (ec vcb) rfl rfl 37 _ k2 (ec_info _) rfl (ec_all _) ?_
      refine ⟨g12, g13, hF.setRow _ (.inr k1), ?_, ?_, ?_, ?_, ?_, ?_, ?_, ?_⟩
      · intro hx
        replace hx : b 6 = true := by simpa [upd] using hx
        obtain ⟨k1', k2⟩ := h6 hx
        refine ⟨k1', (setRow_other _ _ _ _ (fun e => (p6_7 (by simp [d5, d7, hx]) (by simp [d5, d7, hx])) e)).trans ?_⟩
        rw [k2]
        simp [upd]
      · intro _
        refine ⟨k1, (setRow_heap _ _ _ _ _ _ k2).trans ?_⟩
        simp [upd]
      · intro hx hy
        exact p6_7 (by simpa [upd] using hx) (by simpa [upd] using hy)
      · simpa [upd] using hq6
      · simp [upd, d7]
      · have hh := hP0.rowFar (g' := g13) (by have q := Z4_0.out.lt; omega) (ec vcb)
        simpa [upd] using hh
      · have hh := hP1.rowFar (g' := g13) (by have q := Z4_1.out.lt; omega) (ec vcb)
        simpa [upd] using hh
      · simp [upd, Act.put, hr]
    | j + 10, ho => exact absurd ho (by simp)
  intro b a W5 hall hI
  obtain ⟨g12, g13, hF, h6, h7, p6_7, hq6, hq7, hP0, hP1, rfl⟩ := hI
  have t0 : b 0 = true := hall 0 (by simp)
  have t1 : b 1 = true := hall 1 (by simp)
  have t2 : b 2 = true := hall 2 (by simp)
  have t3 : b 3 = true := hall 3 (by simp)
  have t4 : b 4 = true := hall 4 (by simp)
  have t5 : b 5 = true := hall 5 (by simp)
  have t6 : b 6 = true := hall 6 (by simp)
  have t7 : b 7 = true := hall 7 (by simp)
  have t8 : b 8 = true := hall 8 (by simp)
  have t9 : b 9 = true := hall 9 (by simp)
  simp only [t0, t1, t2, t3, t4, t5, t6, t7, t8, t9, if_true, true_implies] at h6 h7 p6_7 hq6 hq7 hP0 hP1 ⊢
  have F5 : Hid (Fr (fun k => k = gp ∨ k = gq) w W5) := F4.out.trans hF
  have X5_0 := Lib.hid ((hF.block _ (heap_lt X4_0.out) (HS.out _ (Nat.le_refl _))).trans X4_0.out)
  have X5_1 := Lib.hid ((hF.block _ (heap_lt X4_1.out) (HS.out _ Yg6)).trans X4_1.out)
  have X5_2 := Lib.hid ((hF.block _ (heap_lt X4_2.out) (HS.out _ Yg7)).trans X4_2.out)
  have X5_3 := Lib.hid ((hF.block _ (heap_lt X4_3.out) (HS.out _ Yg8)).trans X4_3.out)
  have X5_4 := Lib.hid ((hF.block _ (heap_lt X4_4.out) (HS.out _ Yg9)).trans X4_4.out)
  have X5_5 := Lib.hid ((hF.block _ (heap_lt X4_5.out) (HS.out _ Yg10)).trans X4_5.out)
  have X5_6 := Lib.hid ((hF.block _ (heap_lt X4_6.out) (HS.out _ Yg11)).trans X4_6.out)
  have X5_7 := Lib.hid h6.2
  have Yg12 : w.heap.size ≤ g12 := Nat.le_trans F4.out.size h6.1
  have X5_8 := Lib.hid h7.2
  have Yg13 : w.heap.size ≤ g13 := Nat.le_trans F4.out.size h7.1
  have Z5_0 := Lib.hid hP0
  have Z5_1 := Lib.hid hP1
  clear hall hF h6 h7 p6_7 hq6 hq7 hP0 hP1 t0 t1 t2 t3 t4 t5 t6 t7 t8 t9 X4_0 X4_1 X4_2 X4_3 X4_4 X4_5 X4_6 Z4_0 Z4_1 F4
  go_upto_region 5 with (fail)
  refine wp_region_seq (fun b a w' => ∃ g14 : Nat, Fr (fun k => k = gp ∨ k = gq) W5 w' ∧ (b 3 = true → W5.heap.size ≤ g14 ∧ w'.heap[g14]? = some (.cells (if b 4 = true then ec ve else ec 0) 37 (0, 0))) ∧ (b 4 = true → b 3 = true) ∧ P8 w' (gp) px pz ∧ P8 w' (gq) qx qz ∧ a = ⟨#[.pointer (some ⟨gp, 0, none⟩), .pointer (some ⟨gq, 0, none⟩), .agg (ec x1), undef, undef, .pointer (some ⟨w.heap.size, 0, none⟩), .pointer (some ⟨g6, 0, none⟩), .pointer (some ⟨g7, 0, none⟩), .pointer (some ⟨g8, 0, none⟩), .pointer (some ⟨g9, 0, none⟩), .pointer (some ⟨g10, 0, none⟩), .pointer (some ⟨g11, 0, none⟩), .pointer (some ⟨g12, 0, none⟩), .pointer (some ⟨g13, 0, none⟩), if b 3 = true then .pointer (some ⟨g14, 0, none⟩) else undef, .pointer (some ⟨gp, 0, none⟩), .pointer (some ⟨gp, 0, none⟩), .pointer (some ⟨gp, 0, none⟩), .agg (ec px), .pointer (some ⟨gp, 0, none⟩), .pointer (some ⟨gp, 0, none⟩), .pointer (some ⟨gp, 4, none⟩), .agg (ec pz), .agg (ec va), .pointer (some ⟨gp, 0, none⟩), .pointer (some ⟨gp, 0, none⟩), .pointer (some ⟨gp, 0, none⟩), .agg (ec px), .pointer (some ⟨gp, 0, none⟩), .pointer (some ⟨gp, 0, none⟩), .pointer (some ⟨gp, 4, none⟩), .agg (ec pz), .agg (ec vb), .pointer (some ⟨gq, 0, none⟩), .pointer (some ⟨gq, 0, none⟩), .pointer (some ⟨gq, 0, none⟩), .agg (ec qx), .pointer (some ⟨gq, 0, none⟩), .pointer (some ⟨gq, 0, none⟩), .pointer (some ⟨gq, 4, none⟩), .agg (ec qz), .agg (ec vc), .pointer (some ⟨gq, 0, none⟩), .pointer (some ⟨gq, 0, none⟩), .pointer (some ⟨gq, 0, none⟩), .agg (ec qx), .pointer (some ⟨gq, 0, none⟩), .pointer (some ⟨gq, 0, none⟩), .pointer (some ⟨gq, 4, none⟩), .agg (ec qz), .agg (ec vd), .agg (ec va), .agg (ec vaa), .agg (ec vb), .agg (ec vbb), .agg (ec vd), .agg (ec va), .agg (ec vda), .agg (ec vc), .agg (ec vb), .agg (ec vcb), if b 0 = true then .agg (ec vaa) else undef, if b 1 = true then .agg (ec vbb) else undef, if b 2 = true then .agg (ec ve) else undef, undef, undef, undef, undef, undef, undef, undef, undef, undef, undef, undef, undef, undef, undef, undef, undef, undef, undef, undef, undef, undef, undef, undef, undef, undef, undef, undef, undef, undef, undef, undef, undef], []⟩) (by kernel_rfl) ?start5 ?step5 ?done5
  case start5 => exact ⟨0, Fr.refl _ _, by simp, by simp, Z5_0.out, Z5_1.out, by simp⟩
  case step5 =>
    intro i o b a w1 ho hI hb hr
    obtain ⟨g14, hF, h3, hq3, hP0, hP1, rfl⟩ := hI
    match i, ho with
    | 0, ho =>
      injection ho with ho
      subst ho
      refine wp_quiet_here _ (quiet_load 37 (.tmp 10) rfl (g10) rfl 37 _ (0, 0) _ (fun _ h => (Fr.block h _ (Nat.lt_of_lt_of_le (heap_lt X5_5.out) hF.size) (fun x => x)).trans ((hF.block _ (heap_lt X5_5.out) (HS.out _ Yg10)).trans X5_5.out)) Try.underlying37 rfl (ec_info _) rfl) (fun w2 hw2 => ?_)
      refine ⟨g14, hF.trans hw2.any, ?_, ?_, ?_, ?_, ?_⟩
      · intro hx
        replace hx : b 3 = true := by simpa [upd] using hx
        obtain ⟨k1', k2⟩ := h3 hx
        refine ⟨k1', (hw2.block _ (heap_lt k2) (fun x => x)).trans ?_⟩
        rw [k2]
        simp [upd]
      · simpa [upd] using hq3
      · have hh := hP0.fr hw2 (fun x => x)
        simpa [upd] using hh
      · have hh := hP1.fr hw2 (fun x => x)
        simpa [upd] using hh
      · simp [upd, Act.put]
    | 1, ho =>
      injection ho with ho
      subst ho
      have d0 : b 0 = true := hr 0 (by decide)
      simp only [d0, if_true]
      refine wp_quiet_here _ (quiet_load 37 (.tmp 11) rfl (g11) rfl 37 _ (0, 0) _ (fun _ h => (Fr.block h _ (Nat.lt_of_lt_of_le (heap_lt X5_6.out) hF.size) (fun x => x)).trans ((hF.block _ (heap_lt X5_6.out) (HS.out _ Yg11)).trans X5_6.out)) Try.underlying37 rfl (ec_info _) rfl) (fun w2 hw2 => ?_)
      refine ⟨g14, hF.trans hw2.any, ?_, ?_, ?_, ?_, ?_⟩
      · intro hx
        replace hx : b 3 = true := by simpa [upd] using hx
        obtain ⟨k1', k2⟩ := h3 hx
        refine ⟨k1', (hw2.block _ (heap_lt k2) (fun x => x)).trans ?_⟩
        rw [k2]
        simp [upd]
      · simpa [upd] using hq3
      · have hh := hP0.fr hw2 (fun x => x)
        simpa [upd] using hh
      · have hh := hP1.fr hw2 (fun x => x)
        simpa [upd] using hh
      · simp [upd, Act.put, d0]
    | 2, ho =>
      injection ho with ho
      subst ho
      have d0 : b 0 = true := hr 0 (by decide)
      have d1 : b 1 = true := hr 1 (by decide)
      simp only [d0, d1, if_true]
      refine wp_quiet_here (.agg (ec ve)) ?_ (fun w2 hw2 => ?_)
      · go_big_quiet_op
        exact ⟨_, Calm.calls Ce, by simp [Act.put]⟩
      refine ⟨g14, hF.trans hw2.any, ?_, ?_, ?_, ?_, ?_⟩
      · intro hx
        replace hx : b 3 = true := by simpa [upd] using hx
        obtain ⟨k1', k2⟩ := h3 hx
        refine ⟨k1', (hw2.block _ (heap_lt k2) (fun x => x)).trans ?_⟩
        rw [k2]
        simp [upd]
      · simpa [upd] using hq3
      · have hh := hP0.fr hw2 (fun x => x)
        simpa [upd] using hh
      · have hh := hP1.fr hw2 (fun x => x)
        simpa [upd] using hh
      · simp [upd, Act.put, d0, d1]
    | 3, ho =>
      injection ho with ho
      subst ho
      have d0 : b 0 = true := hr 0 (by decide)
      have d1 : b 1 = true := hr 1 (by decide)
      have d2 : b 2 = true := hr 2 (by decide)
      simp only [d0, d1, d2, if_true]
      refine wp_alloc_any 37 rfl (ec 0) ec_zero ?_
      refine ⟨w1.heap.size, hF.alloc _, ?_, ?_, ?_, ?_, ?_⟩
      · intro _
        refine ⟨hF.size, (heap_alloc_new w1 _).trans ?_⟩
        have hs : b 4 = false := by
          rcases hbs : b 4 with _ | _
          · rfl
          · rw [hq3 hbs] at hb
            cases hb
        simp [upd, hs]
      · simp [upd]
      · have hh := hP0.alloc (.cells (ec 0) 37)
        simpa [upd] using hh
      · have hh := hP1.alloc (.cells (ec 0) 37)
        simpa [upd] using hh
      · simp [upd, Act.put, d0, d1, d2]
    | 4, ho =>
      injection ho with ho
      subst ho
      have d0 : b 0 = true := hr 0 (by decide)
      have d1 : b 1 = true := hr 1 (by decide)
      have d2 : b 2 = true := hr 2 (by decide)
      have d3 : b 3 = true := hr 3 (by decide)
      simp only [d0, d1, d2, d3, if_true]
      obtain ⟨k1, k2⟩ := h3 d3
      rw [hb] at k2
      simp only [Bool.false_eq_true, if_false] at k2
      refine wp_store_row 37 (.tmp 14) (.tmp 63) rfl g14 (ec ve) rfl rfl 37 _ k2 (ec_info _) rfl (ec_all _) ?_
      refine ⟨g14, hF.setRow _ (.inr k1), ?_, ?_, ?_, ?_, ?_⟩
      · intro _
        refine ⟨k1, (setRow_heap _ _ _ _ _ _ k2).trans ?_⟩
        simp [upd]
      · simp [upd, d3]
      · have hh := hP0.rowFar (g' := g14) (by have q := Z5_0.out.lt; omega) (ec ve)
        simpa [upd] using hh
      · have hh := hP1.rowFar (g' := g14) (by have q := Z5_1.out.lt; omega) (ec ve)
        simpa [upd] using hh
      · simp [upd, Act.put, d0, d1, d2, d3]
    | j + 5, ho => exact absurd ho (by simp)
  intro b a W6 hall hI
  obtain ⟨g14, hF, h3, hq3, hP0, hP1, rfl⟩ := hI
  have t0 : b 0 = true := hall 0 (by simp)
  have t1 : b 1 = true := hall 1 (by simp)
  have t2 : b 2 = true := hall 2 (by simp)
  have t3 : b 3 = true := hall 3 (by simp)
  have t4 : b 4 = true := hall 4 (by simp)
  simp only [t0, t1, t2, t3, t4, if_true, true_implies] at h3 hq3 hP0 hP1 ⊢
  have F6 : Hid (Fr (fun k => k = gp ∨ k = gq) w W6) := F5.out.trans hF
  have X6_0 := Lib.hid ((hF.block _ (heap_lt X5_0.out) (HS.out _ (Nat.le_refl _))).trans X5_0.out)
  have X6_1 := Lib.hid ((hF.block _ (heap_lt X5_1.out) (HS.out _ Yg6)).trans X5_1.out)
  have X6_2 := Lib.hid ((hF.block _ (heap_lt X5_2.out) (HS.out _ Yg7)).trans X5_2.out)
  have X6_3 := Lib.hid ((hF.block _ (heap_lt X5_3.out) (HS.out _ Yg8)).trans X5_3.out)
  have X6_4 := Lib.hid ((hF.block _ (heap_lt X5_4.out) (HS.out _ Yg9)).trans X5_4.out)
  have X6_5 := Lib.hid ((hF.block _ (heap_lt X5_5.out) (HS.out _ Yg10)).trans X5_5.out)
  have X6_6 := Lib.hid ((hF.block _ (heap_lt X5_6.out) (HS.out _ Yg11)).trans X5_6.out)
  have X6_7 := Lib.hid ((hF.block _ (heap_lt X5_7.out) (HS.out _ Yg12)).trans X5_7.out)
  have X6_8 := Lib.hid ((hF.block _ (heap_lt X5_8.out) (HS.out _ Yg13)).trans X5_8.out)
  have X6_9 := Lib.hid h3.2
  have Yg14 : w.heap.size ≤ g14 := Nat.le_trans F5.out.size h3.1
  have Z6_0 := Lib.hid hP0
  have Z6_1 := Lib.hid hP1
  clear hall hF h3 hq3 hP0 hP1 t0 t1 t2 t3 t4 X5_0 X5_1 X5_2 X5_3 X5_4 X5_5 X5_6 X5_7 X5_8 Z5_0 Z5_1 F5
  go_upto_region 6 with (fail)
  refine wp_region_seq (fun b a w' => Fr (fun k => k = gp ∨ k = gq) W6 w' ∧ P8 w' (gp) px pz ∧ P8 w' (gq) (if b 7 = true then qx' else qx) qz ∧ a = ⟨#[.pointer (some ⟨gp, 0, none⟩), .pointer (some ⟨gq, 0, none⟩), .agg (ec x1), undef, undef, .pointer (some ⟨w.heap.size, 0, none⟩), .pointer (some ⟨g6, 0, none⟩), .pointer (some ⟨g7, 0, none⟩), .pointer (some ⟨g8, 0, none⟩), .pointer (some ⟨g9, 0, none⟩), .pointer (some ⟨g10, 0, none⟩), .pointer (some ⟨g11, 0, none⟩), .pointer (some ⟨g12, 0, none⟩), .pointer (some ⟨g13, 0, none⟩), .pointer (some ⟨g14, 0, none⟩), .pointer (some ⟨gp, 0, none⟩), .pointer (some ⟨gp, 0, none⟩), .pointer (some ⟨gp, 0, none⟩), .agg (ec px), .pointer (some ⟨gp, 0, none⟩), .pointer (some ⟨gp, 0, none⟩), .pointer (some ⟨gp, 4, none⟩), .agg (ec pz), .agg (ec va), .pointer (some ⟨gp, 0, none⟩), .pointer (some ⟨gp, 0, none⟩), .pointer (some ⟨gp, 0, none⟩), .agg (ec px), .pointer (some ⟨gp, 0, none⟩), .pointer (some ⟨gp, 0, none⟩), .pointer (some ⟨gp, 4, none⟩), .agg (ec pz), .agg (ec vb), .pointer (some ⟨gq, 0, none⟩), .pointer (some ⟨gq, 0, none⟩), .pointer (some ⟨gq, 0, none⟩), .agg (ec qx), .pointer (some ⟨gq, 0, none⟩), .pointer (some ⟨gq, 0, none⟩), .pointer (some ⟨gq, 4, none⟩), .agg (ec qz), .agg (ec vc), .pointer (some ⟨gq, 0, none⟩), .pointer (some ⟨gq, 0, none⟩), .pointer (some ⟨gq, 0, none⟩), .agg (ec qx), .pointer (some ⟨gq, 0, none⟩), .pointer (some ⟨gq, 0, none⟩), .pointer (some ⟨gq, 4, none⟩), .agg (ec qz), .agg (ec vd), .agg (ec va), .agg (ec vaa), .agg (ec vb), .agg (ec vbb), .agg (ec vd), .agg (ec va), .agg (ec vda), .agg (ec vc), .agg (ec vb), .agg (ec vcb), .agg (ec vaa), .agg (ec vbb), .agg (ec ve), if b 0 = true then .pointer (some ⟨gq, 0, none⟩) else undef, if b 1 = true then .agg (ec vda) else undef, if b 2 = true then .agg (ec vcb) else undef, if b 3 = true then .agg (ec vs1) else undef, if b 4 = true then .agg (ec qx') else undef, if b 5 = true then .pointer (some ⟨gq, 0, none⟩) else undef, if b 6 = true then .pointer (some ⟨gq, 0, none⟩) else undef, undef, undef, undef, undef, undef, undef, undef, undef, undef, undef, undef, undef, undef, undef, undef, undef, undef, undef, undef, undef, undef, undef, undef, undef, undef], []⟩) (by kernel_rfl) ?start6 ?step6 ?done6
  case start6 => exact ⟨Fr.refl _ _, Z6_0.out, by simp only [Bool.false_eq_true, if_false]; exact Z6_1.out, by simp⟩
  case step6 =>
    intro i o b a w1 ho hI hb hr
    obtain ⟨hF, hP0, hP1, rfl⟩ := hI
    match i, ho with
    | 0, ho =>
      injection ho with ho
      subst ho
      refine wp_quiet_here (.pointer (some ⟨gq, 0, none⟩)) (BigFrame.quiet_move _ rfl rfl) (fun w2 hw2 => ?_)
      refine ⟨hF.trans hw2.any, ?_, ?_, ?_⟩
      · have hh := hP0.fr hw2 (fun x => x)
        simpa [upd] using hh
      · have hh := hP1.fr hw2 (fun x => x)
        simpa [upd] using hh
      · simp [upd, Act.put]
    | 1, ho =>
      injection ho with ho
      subst ho
      have d0 : b 0 = true := hr 0 (by decide)
      simp only [d0, if_true]
      refine wp_quiet_here _ (quiet_load 37 (.tmp 12) rfl (g12) rfl 37 _ (0, 0) _ (fun _ h => (Fr.block h _ (Nat.lt_of_lt_of_le (heap_lt X6_7.out) hF.size) (fun x => x)).trans ((hF.block _ (heap_lt X6_7.out) (HS.out _ Yg12)).trans X6_7.out)) Try.underlying37 rfl (ec_info _) rfl) (fun w2 hw2 => ?_)
      refine ⟨hF.trans hw2.any, ?_, ?_, ?_⟩
      · have hh := hP0.fr hw2 (fun x => x)
        simpa [upd] using hh
      · have hh := hP1.fr hw2 (fun x => x)
        simpa [upd] using hh
      · simp [upd, Act.put, d0]
    | 2, ho =>
      injection ho with ho
      subst ho
      have d0 : b 0 = true := hr 0 (by decide)
      have d1 : b 1 = true := hr 1 (by decide)
      simp only [d0, d1, if_true]
      refine wp_quiet_here _ (quiet_load 37 (.tmp 13) rfl (g13) rfl 37 _ (0, 0) _ (fun _ h => (Fr.block h _ (Nat.lt_of_lt_of_le (heap_lt X6_8.out) hF.size) (fun x => x)).trans ((hF.block _ (heap_lt X6_8.out) (HS.out _ Yg13)).trans X6_8.out)) Try.underlying37 rfl (ec_info _) rfl) (fun w2 hw2 => ?_)
      refine ⟨hF.trans hw2.any, ?_, ?_, ?_⟩
      · have hh := hP0.fr hw2 (fun x => x)
        simpa [upd] using hh
      · have hh := hP1.fr hw2 (fun x => x)
        simpa [upd] using hh
      · simp [upd, Act.put, d0, d1]
    | 3, ho =>
      injection ho with ho
      subst ho
      have d0 : b 0 = true := hr 0 (by decide)
      have d1 : b 1 = true := hr 1 (by decide)
      have d2 : b 2 = true := hr 2 (by decide)
      simp only [d0, d1, d2, if_true]
      refine wp_quiet_here (.agg (ec vs1)) ?_ (fun w2 hw2 => ?_)
      · go_big_quiet_op
        exact ⟨_, Calm.calls Cs1, by simp [Act.put]⟩
      refine ⟨hF.trans hw2.any, ?_, ?_, ?_⟩
      · have hh := hP0.fr hw2 (fun x => x)
        simpa [upd] using hh
      · have hh := hP1.fr hw2 (fun x => x)
        simpa [upd] using hh
      · simp [upd, Act.put, d0, d1, d2]
    | 4, ho =>
      injection ho with ho
      subst ho
      have d0 : b 0 = true := hr 0 (by decide)
      have d1 : b 1 = true := hr 1 (by decide)
      have d2 : b 2 = true := hr 2 (by decide)
      have d3 : b 3 = true := hr 3 (by decide)
      simp only [d0, d1, d2, d3, if_true]
      refine wp_quiet_here (.agg (ec qx')) ?_ (fun w2 hw2 => ?_)
      · go_big_quiet_op
        exact ⟨_, Calm.calls Cx3, by simp [Act.put]⟩
      refine ⟨hF.trans hw2.any, ?_, ?_, ?_⟩
      · have hh := hP0.fr hw2 (fun x => x)
        simpa [upd] using hh
      · have hh := hP1.fr hw2 (fun x => x)
        simpa [upd] using hh
      · simp [upd, Act.put, d0, d1, d2, d3]
    | 5, ho =>
      injection ho with ho
      subst ho
      have d0 : b 0 = true := hr 0 (by decide)
      have d1 : b 1 = true := hr 1 (by decide)
      have d2 : b 2 = true := hr 2 (by decide)
      have d3 : b 3 = true := hr 3 (by decide)
      have d4 : b 4 = true := hr 4 (by decide)
      simp only [d0, d1, d2, d3, d4, if_true]
      refine wp_quiet_here (.pointer (some ⟨gq, 0, none⟩)) ?_ (fun w2 hw2 => ?_)
      · go_big_quiet_op
        first
          | (simp [Act.put]; done)
          | exact ⟨_, fun _ _ => rfl, by simp [Act.put]⟩
      refine ⟨hF.trans hw2.any, ?_, ?_, ?_⟩
      · have hh := hP0.fr hw2 (fun x => x)
        simpa [upd] using hh
      · have hh := hP1.fr hw2 (fun x => x)
        simpa [upd] using hh
      · simp [upd, Act.put, d0, d1, d2, d3, d4]
    | 6, ho =>
      injection ho with ho
      subst ho
      have d0 : b 0 = true := hr 0 (by decide)
      have d1 : b 1 = true := hr 1 (by decide)
      have d2 : b 2 = true := hr 2 (by decide)
      have d3 : b 3 = true := hr 3 (by decide)
      have d4 : b 4 = true := hr 4 (by decide)
      have d5 : b 5 = true := hr 5 (by decide)
      simp only [d0, d1, d2, d3, d4, d5, if_true]
      refine wp_quiet_here (.pointer (some ⟨gq, 0, none⟩)) ?_ (fun w2 hw2 => ?_)
      · go_big_quiet_op
        first
          | (simp [Act.put]; done)
          | exact ⟨_, fun _ _ => rfl, by simp [Act.put]⟩
      refine ⟨hF.trans hw2.any, ?_, ?_, ?_⟩
      · have hh := hP0.fr hw2 (fun x => x)
        simpa [upd] using hh
      · have hh := hP1.fr hw2 (fun x => x)
        simpa [upd] using hh
      · simp [upd, Act.put, d0, d1, d2, d3, d4, d5]
    | 7, ho =>
      injection ho with ho
      subst ho
      have d0 : b 0 = true := hr 0 (by decide)
      have d1 : b 1 = true := hr 1 (by decide)
      have d2 : b 2 = true := hr 2 (by decide)
      have d3 : b 3 = true := hr 3 (by decide)
      have d4 : b 4 = true := hr 4 (by decide)
      have d5 : b 5 = true := hr 5 (by decide)
      have d6 : b 6 = true := hr 6 (by decide)
      simp only [d0, d1, d2, d3, d4, d5, d6, if_true]
      refine wp_store_mid 37 (.tmp 70) (.tmp 68) rfl (gq) 0 (ec qx') rfl rfl hP1.there0 (ec_info _) (ec_all _) ?_
      refine ⟨hF.setCells _ _ (.inl (by simp)), ?_, ?_, ?_⟩
      · have hh := hP0.far (by first | assumption | omega) 0 (ec qx').toList
        simpa [upd] using hh
      · have hh := hP1.s0 qx'
        simpa [upd] using hh
      · simp [upd, Act.put, d0, d1, d2, d3, d4, d5, d6]
    | j + 8, ho => exact absurd ho (by simp)
  intro b a W7 hall hI
  obtain ⟨hF, hP0, hP1, rfl⟩ := hI
  have t0 : b 0 = true := hall 0 (by simp)
  have t1 : b 1 = true := hall 1 (by simp)
  have t2 : b 2 = true := hall 2 (by simp)
  have t3 : b 3 = true := hall 3 (by simp)
  have t4 : b 4 = true := hall 4 (by simp)
  have t5 : b 5 = true := hall 5 (by simp)
  have t6 : b 6 = true := hall 6 (by simp)
  have t7 : b 7 = true := hall 7 (by simp)
  simp only [t0, t1, t2, t3, t4, t5, t6, t7, if_true, true_implies] at hP0 hP1 ⊢
  have F7 : Hid (Fr (fun k => k = gp ∨ k = gq) w W7) := F6.out.trans hF
  have X7_0 := Lib.hid ((hF.block _ (heap_lt X6_0.out) (HS.out _ (Nat.le_refl _))).trans X6_0.out)
  have X7_1 := Lib.hid ((hF.block _ (heap_lt X6_1.out) (HS.out _ Yg6)).trans X6_1.out)
  have X7_2 := Lib.hid ((hF.block _ (heap_lt X6_2.out) (HS.out _ Yg7)).trans X6_2.out)
  have X7_3 := Lib.hid ((hF.block _ (heap_lt X6_3.out) (HS.out _ Yg8)).trans X6_3.out)
  have X7_4 := Lib.hid ((hF.block _ (heap_lt X6_4.out) (HS.out _ Yg9)).trans X6_4.out)
  have X7_5 := Lib.hid ((hF.block _ (heap_lt X6_5.out) (HS.out _ Yg10)).trans X6_5.out)
  have X7_6 := Lib.hid ((hF.block _ (heap_lt X6_6.out) (HS.out _ Yg11)).trans X6_6.out)
  have X7_7 := Lib.hid ((hF.block _ (heap_lt X6_7.out) (HS.out _ Yg12)).trans X6_7.out)
  have X7_8 := Lib.hid ((hF.block _ (heap_lt X6_8.out) (HS.out _ Yg13)).trans X6_8.out)
  have X7_9 := Lib.hid ((hF.block _ (heap_lt X6_9.out) (HS.out _ Yg14)).trans X6_9.out)
  have Z7_0 := Lib.hid hP0
  have Z7_1 := Lib.hid hP1
  clear hall hF hP0 hP1 t0 t1 t2 t3 t4 t5 t6 t7 X6_0 X6_1 X6_2 X6_3 X6_4 X6_5 X6_6 X6_7 X6_8 X6_9 Z6_0 Z6_1 F6
  go_upto_region 7 with (fail)
  refine wp_region_inv2 (fun b a w' => Fr (fun k => k = gp ∨ k = gq) W7 w' ∧ P8 w' (gp) px pz ∧ P8 w' (gq) qx' (if b 9 = true then qz' else qz) ∧ a = ⟨#[.pointer (some ⟨gp, 0, none⟩), .pointer (some ⟨gq, 0, none⟩), .agg (ec x1), undef, undef, .pointer (some ⟨w.heap.size, 0, none⟩), .pointer (some ⟨g6, 0, none⟩), .pointer (some ⟨g7, 0, none⟩), .pointer (some ⟨g8, 0, none⟩), .pointer (some ⟨g9, 0, none⟩), .pointer (some ⟨g10, 0, none⟩), .pointer (some ⟨g11, 0, none⟩), .pointer (some ⟨g12, 0, none⟩), .pointer (some ⟨g13, 0, none⟩), .pointer (some ⟨g14, 0, none⟩), .pointer (some ⟨gp, 0, none⟩), .pointer (some ⟨gp, 0, none⟩), .pointer (some ⟨gp, 0, none⟩), .agg (ec px), .pointer (some ⟨gp, 0, none⟩), .pointer (some ⟨gp, 0, none⟩), .pointer (some ⟨gp, 4, none⟩), .agg (ec pz), .agg (ec va), .pointer (some ⟨gp, 0, none⟩), .pointer (some ⟨gp, 0, none⟩), .pointer (some ⟨gp, 0, none⟩), .agg (ec px), .pointer (some ⟨gp, 0, none⟩), .pointer (some ⟨gp, 0, none⟩), .pointer (some ⟨gp, 4, none⟩), .agg (ec pz), .agg (ec vb), .pointer (some ⟨gq, 0, none⟩), .pointer (some ⟨gq, 0, none⟩), .pointer (some ⟨gq, 0, none⟩), .agg (ec qx), .pointer (some ⟨gq, 0, none⟩), .pointer (some ⟨gq, 0, none⟩), .pointer (some ⟨gq, 4, none⟩), .agg (ec qz), .agg (ec vc), .pointer (some ⟨gq, 0, none⟩), .pointer (some ⟨gq, 0, none⟩), .pointer (some ⟨gq, 0, none⟩), .agg (ec qx), .pointer (some ⟨gq, 0, none⟩), .pointer (some ⟨gq, 0, none⟩), .pointer (some ⟨gq, 4, none⟩), .agg (ec qz), .agg (ec vd), .agg (ec va), .agg (ec vaa), .agg (ec vb), .agg (ec vbb), .agg (ec vd), .agg (ec va), .agg (ec vda), .agg (ec vc), .agg (ec vb), .agg (ec vcb), .agg (ec vaa), .agg (ec vbb), .agg (ec ve), .pointer (some ⟨gq, 0, none⟩), .agg (ec vda), .agg (ec vcb), .agg (ec vs1), .agg (ec qx'), .pointer (some ⟨gq, 0, none⟩), .pointer (some ⟨gq, 0, none⟩), if b 0 = true then .pointer (some ⟨gq, 0, none⟩) else undef, if b 1 = true then .agg (ec x1) else undef, if b 2 = true then .agg (ec vda) else undef, if b 3 = true then .agg (ec vcb) else undef, if b 4 = true then .agg (ec vs2) else undef, if b 5 = true then .agg (ec vs3) else undef, if b 6 = true then .agg (ec qz') else undef, if b 7 = true then .pointer (some ⟨gq, 0, none⟩) else undef, if b 8 = true then .pointer (some ⟨gq, 4, none⟩) else undef, undef, undef, undef, undef, undef, undef, undef, undef, undef, undef, undef, undef, undef, undef, undef, undef], []⟩) (by kernel_rfl) (by kernel_rfl) ?start7 ?step7 ?done7
  case start7 => exact ⟨⟨rfl, rfl, rfl, Nat.le_refl _, fun _ _ _ => rfl⟩, Z7_0.out, by simp only [Bool.false_eq_true, if_false]; exact Z7_1.out, by simp⟩
  case step7 =>
    intro i o b a w1 ho hI hb hr hc
    obtain ⟨hF, hP0, hP1, rfl⟩ := hI
    match i, ho with
    | 0, ho =>
      injection ho with ho
      subst ho
      refine wp_quiet_here (.pointer (some ⟨gq, 0, none⟩)) (BigFrame.quiet_move _ rfl rfl) (fun w2 hw2 => ?_)
      refine ⟨hF.trans hw2.any, ?_, ?_, ?_⟩
      · have hh := hP0.fr hw2 (fun x => x)
        simpa [upd] using hh
      · have hh := hP1.fr hw2 (fun x => x)
        simpa [upd] using hh
      · simp [upd, Act.put]
    | 1, ho =>
      injection ho with ho
      subst ho
      refine wp_quiet_here _ (quiet_load 37 (.tmp 5) rfl (w.heap.size) rfl 37 _ (0, 0) _ (fun _ h => (Fr.block h _ (Nat.lt_of_lt_of_le (heap_lt X7_0.out) hF.size) (fun x => x)).trans ((hF.block _ (heap_lt X7_0.out) (HS.out _ (Nat.le_refl _))).trans X7_0.out)) Try.underlying37 rfl (ec_info _) rfl) (fun w2 hw2 => ?_)
      refine ⟨hF.trans hw2.any, ?_, ?_, ?_⟩
      · have hh := hP0.fr hw2 (fun x => x)
        simpa [upd] using hh
      · have hh := hP1.fr hw2 (fun x => x)
        simpa [upd] using hh
      · simp [upd, Act.put]
    | 2, ho =>
      injection ho with ho
      subst ho
      refine wp_quiet_here _ (quiet_load 37 (.tmp 12) rfl (g12) rfl 37 _ (0, 0) _ (fun _ h => (Fr.block h _ (Nat.lt_of_lt_of_le (heap_lt X7_7.out) hF.size) (fun x => x)).trans ((hF.block _ (heap_lt X7_7.out) (HS.out _ Yg12)).trans X7_7.out)) Try.underlying37 rfl (ec_info _) rfl) (fun w2 hw2 => ?_)
      refine ⟨hF.trans hw2.any, ?_, ?_, ?_⟩
      · have hh := hP0.fr hw2 (fun x => x)
        simpa [upd] using hh
      · have hh := hP1.fr hw2 (fun x => x)
        simpa [upd] using hh
      · simp [upd, Act.put]
    | 3, ho =>
      injection ho with ho
      subst ho
      refine wp_quiet_here _ (quiet_load 37 (.tmp 13) rfl (g13) rfl 37 _ (0, 0) _ (fun _ h => (Fr.block h _ (Nat.lt_of_lt_of_le (heap_lt X7_8.out) hF.size) (fun x => x)).trans ((hF.block _ (heap_lt X7_8.out) (HS.out _ Yg13)).trans X7_8.out)) Try.underlying37 rfl (ec_info _) rfl) (fun w2 hw2 => ?_)
      refine ⟨hF.trans hw2.any, ?_, ?_, ?_⟩
      · have hh := hP0.fr hw2 (fun x => x)
        simpa [upd] using hh
      · have hh := hP1.fr hw2 (fun x => x)
        simpa [upd] using hh
      · simp [upd, Act.put]
    | 4, ho =>
      injection ho with ho
      subst ho
      simp [Region.binds] at hr
      have d2 : b 2 = true := by simp only [hr]
      have d3 : b 3 = true := by simp only [hr]
      simp only [hr, if_true]
      refine wp_quiet_here (.agg (ec vs2)) ?_ (fun w2 hw2 => ?_)
      · go_big_quiet_op
        exact ⟨_, Calm.calls Cs2, by simp [Act.put]⟩
      refine ⟨hF.trans hw2.any, ?_, ?_, ?_⟩
      · have hh := hP0.fr hw2 (fun x => x)
        simpa [upd] using hh
      · have hh := hP1.fr hw2 (fun x => x)
        simpa [upd] using hh
      · simp [upd, Act.put, hr]
    | 5, ho =>
      injection ho with ho
      subst ho
      simp [Region.binds] at hr
      have d4 : b 4 = true := by simp only [hr]
      simp only [hr, if_true]
      refine wp_quiet_here (.agg (ec vs3)) ?_ (fun w2 hw2 => ?_)
      · go_big_quiet_op
        exact ⟨_, Calm.calls Cs3, by simp [Act.put]⟩
      refine ⟨hF.trans hw2.any, ?_, ?_, ?_⟩
      · have hh := hP0.fr hw2 (fun x => x)
        simpa [upd] using hh
      · have hh := hP1.fr hw2 (fun x => x)
        simpa [upd] using hh
      · simp [upd, Act.put, hr]
    | 6, ho =>
      injection ho with ho
      subst ho
      simp [Region.binds] at hr
      have d1 : b 1 = true := by simp only [hr]
      have d5 : b 5 = true := by simp only [hr]
      simp only [hr, if_true]
      refine wp_quiet_here (.agg (ec qz')) ?_ (fun w2 hw2 => ?_)
      · go_big_quiet_op
        exact ⟨_, Calm.calls Cz3, by simp [Act.put]⟩
      refine ⟨hF.trans hw2.any, ?_, ?_, ?_⟩
      · have hh := hP0.fr hw2 (fun x => x)
        simpa [upd] using hh
      · have hh := hP1.fr hw2 (fun x => x)
        simpa [upd] using hh
      · simp [upd, Act.put, hr]
    | 7, ho =>
      injection ho with ho
      subst ho
      simp [Region.binds] at hr
      have d0 : b 0 = true := by simp only [hr]
      simp only [hr, if_true]
      refine wp_quiet_here (.pointer (some ⟨gq, 0, none⟩)) ?_ (fun w2 hw2 => ?_)
      · go_big_quiet_op
        first
          | (simp [Act.put]; done)
          | exact ⟨_, fun _ _ => rfl, by simp [Act.put]⟩
      refine ⟨hF.trans hw2.any, ?_, ?_, ?_⟩
      · have hh := hP0.fr hw2 (fun x => x)
        simpa [upd] using hh
      · have hh := hP1.fr hw2 (fun x => x)
        simpa [upd] using hh
      · simp [upd, Act.put, hr]
    | 8, ho =>
      injection ho with ho
      subst ho
      simp [Region.binds] at hr
      have d7 : b 7 = true := by simp only [hr]
      simp only [hr, if_true]
      refine wp_quiet_here (.pointer (some ⟨gq, 4, none⟩)) ?_ (fun w2 hw2 => ?_)
      · go_big_quiet_op
        first
          | (simp [Act.put]; done)
          | exact ⟨_, fun _ _ => rfl, by simp [Act.put]⟩
      refine ⟨hF.trans hw2.any, ?_, ?_, ?_⟩
      · have hh := hP0.fr hw2 (fun x => x)
        simpa [upd] using hh
      · have hh := hP1.fr hw2 (fun x => x)
        simpa [upd] using hh
      · simp [upd, Act.put, hr]
    | 9, ho =>
      injection ho with ho
      subst ho
      simp [Region.binds] at hr
      have d6 : b 6 = true := by simp only [hr]
      have d8 : b 8 = true := by simp only [hr]
      simp only [hr, if_true]
      refine wp_store_mid 37 (.tmp 79) (.tmp 77) rfl (gq) 4 (ec qz') rfl rfl hP1.there1 (ec_info _) (ec_all _) ?_
      refine ⟨hF.setCells _ _ (.inl (by simp)), ?_, ?_, ?_⟩
      · have hh := hP0.far (by first | assumption | omega) 4 (ec qz').toList
        simpa [upd] using hh
      · have hh := hP1.s1 qz'
        simpa [upd] using hh
      · simp [upd, Act.put, hr]
    | j + 10, ho => exact absurd ho (by simp)
  intro b a W8 hall hI
  obtain ⟨hF, hP0, hP1, rfl⟩ := hI
  have t0 : b 0 = true := hall 0 (by simp)
  have t1 : b 1 = true := hall 1 (by simp)
  have t2 : b 2 = true := hall 2 (by simp)
  have t3 : b 3 = true := hall 3 (by simp)
  have t4 : b 4 = true := hall 4 (by simp)
  have t5 : b 5 = true := hall 5 (by simp)
  have t6 : b 6 = true := hall 6 (by simp)
  have t7 : b 7 = true := hall 7 (by simp)
  have t8 : b 8 = true := hall 8 (by simp)
  have t9 : b 9 = true := hall 9 (by simp)
  simp only [t0, t1, t2, t3, t4, t5, t6, t7, t8, t9, if_true, true_implies] at hP0 hP1 ⊢
  have F8 : Hid (Fr (fun k => k = gp ∨ k = gq) w W8) := F7.out.trans hF
  have X8_0 := Lib.hid ((hF.block _ (heap_lt X7_0.out) (HS.out _ (Nat.le_refl _))).trans X7_0.out)
  have X8_1 := Lib.hid ((hF.block _ (heap_lt X7_1.out) (HS.out _ Yg6)).trans X7_1.out)
  have X8_2 := Lib.hid ((hF.block _ (heap_lt X7_2.out) (HS.out _ Yg7)).trans X7_2.out)
  have X8_3 := Lib.hid ((hF.block _ (heap_lt X7_3.out) (HS.out _ Yg8)).trans X7_3.out)
  have X8_4 := Lib.hid ((hF.block _ (heap_lt X7_4.out) (HS.out _ Yg9)).trans X7_4.out)
  have X8_5 := Lib.hid ((hF.block _ (heap_lt X7_5.out) (HS.out _ Yg10)).trans X7_5.out)
  have X8_6 := Lib.hid ((hF.block _ (heap_lt X7_6.out) (HS.out _ Yg11)).trans X7_6.out)
  have X8_7 := Lib.hid ((hF.block _ (heap_lt X7_7.out) (HS.out _ Yg12)).trans X7_7.out)
  have X8_8 := Lib.hid ((hF.block _ (heap_lt X7_8.out) (HS.out _ Yg13)).trans X7_8.out)
  have X8_9 := Lib.hid ((hF.block _ (heap_lt X7_9.out) (HS.out _ Yg14)).trans X7_9.out)
  have Z8_0 := Lib.hid hP0
  have Z8_1 := Lib.hid hP1
  clear hall hF hP0 hP1 t0 t1 t2 t3 t4 t5 t6 t7 t8 t9 X7_0 X7_1 X7_2 X7_3 X7_4 X7_5 X7_6 X7_7 X7_8 X7_9 Z7_0 Z7_1 F7
  go_upto_region 8 with (fail)
  refine wp_region_seq (fun b a w' => Fr (fun k => k = gp ∨ k = gq) W8 w' ∧ P8 w' (gp) (if b 6 = true then px' else px) pz ∧ P8 w' (gq) qx' qz' ∧ a = ⟨#[.pointer (some ⟨gp, 0, none⟩), .pointer (some ⟨gq, 0, none⟩), .agg (ec x1), undef, undef, .pointer (some ⟨w.heap.size, 0, none⟩), .pointer (some ⟨g6, 0, none⟩), .pointer (some ⟨g7, 0, none⟩), .pointer (some ⟨g8, 0, none⟩), .pointer (some ⟨g9, 0, none⟩), .pointer (some ⟨g10, 0, none⟩), .pointer (some ⟨g11, 0, none⟩), .pointer (some ⟨g12, 0, none⟩), .pointer (some ⟨g13, 0, none⟩), .pointer (some ⟨g14, 0, none⟩), .pointer (some ⟨gp, 0, none⟩), .pointer (some ⟨gp, 0, none⟩), .pointer (some ⟨gp, 0, none⟩), .agg (ec px), .pointer (some ⟨gp, 0, none⟩), .pointer (some ⟨gp, 0, none⟩), .pointer (some ⟨gp, 4, none⟩), .agg (ec pz), .agg (ec va), .pointer (some ⟨gp, 0, none⟩), .pointer (some ⟨gp, 0, none⟩), .pointer (some ⟨gp, 0, none⟩), .agg (ec px), .pointer (some ⟨gp, 0, none⟩), .pointer (some ⟨gp, 0, none⟩), .pointer (some ⟨gp, 4, none⟩), .agg (ec pz), .agg (ec vb), .pointer (some ⟨gq, 0, none⟩), .pointer (some ⟨gq, 0, none⟩), .pointer (some ⟨gq, 0, none⟩), .agg (ec qx), .pointer (some ⟨gq, 0, none⟩), .pointer (some ⟨gq, 0, none⟩), .pointer (some ⟨gq, 4, none⟩), .agg (ec qz), .agg (ec vc), .pointer (some ⟨gq, 0, none⟩), .pointer (some ⟨gq, 0, none⟩), .pointer (some ⟨gq, 0, none⟩), .agg (ec qx), .pointer (some ⟨gq, 0, none⟩), .pointer (some ⟨gq, 0, none⟩), .pointer (some ⟨gq, 4, none⟩), .agg (ec qz), .agg (ec vd), .agg (ec va), .agg (ec vaa), .agg (ec vb), .agg (ec vbb), .agg (ec vd), .agg (ec va), .agg (ec vda), .agg (ec vc), .agg (ec vb), .agg (ec vcb), .agg (ec vaa), .agg (ec vbb), .agg (ec ve), .pointer (some ⟨gq, 0, none⟩), .agg (ec vda), .agg (ec vcb), .agg (ec vs1), .agg (ec qx'), .pointer (some ⟨gq, 0, none⟩), .pointer (some ⟨gq, 0, none⟩), .pointer (some ⟨gq, 0, none⟩), .agg (ec x1), .agg (ec vda), .agg (ec vcb), .agg (ec vs2), .agg (ec vs3), .agg (ec qz'), .pointer (some ⟨gq, 0, none⟩), .pointer (some ⟨gq, 4, none⟩), if b 0 = true then .pointer (some ⟨gp, 0, none⟩) else undef, if b 1 = true then .agg (ec vaa) else undef, if b 2 = true then .agg (ec vbb) else undef, if b 3 = true then .agg (ec px') else undef, if b 4 = true then .pointer (some ⟨gp, 0, none⟩) else undef, if b 5 = true then .pointer (some ⟨gp, 0, none⟩) else undef, undef, undef, undef, undef, undef, undef, undef, undef, undef, undef], []⟩) (by kernel_rfl) ?start8 ?step8 ?done8
  case start8 => exact ⟨Fr.refl _ _, by simp only [Bool.false_eq_true, if_false]; exact Z8_0.out, Z8_1.out, by simp⟩
  case step8 =>
    intro i o b a w1 ho hI hb hr
    obtain ⟨hF, hP0, hP1, rfl⟩ := hI
    match i, ho with
    | 0, ho =>
      injection ho with ho
      subst ho
      refine wp_quiet_here (.pointer (some ⟨gp, 0, none⟩)) (BigFrame.quiet_move _ rfl rfl) (fun w2 hw2 => ?_)
      refine ⟨hF.trans hw2.any, ?_, ?_, ?_⟩
      · have hh := hP0.fr hw2 (fun x => x)
        simpa [upd] using hh
      · have hh := hP1.fr hw2 (fun x => x)
        simpa [upd] using hh
      · simp [upd, Act.put]
    | 1, ho =>
      injection ho with ho
      subst ho
      have d0 : b 0 = true := hr 0 (by decide)
      simp only [d0, if_true]
      refine wp_quiet_here _ (quiet_load 37 (.tmp 10) rfl (g10) rfl 37 _ (0, 0) _ (fun _ h => (Fr.block h _ (Nat.lt_of_lt_of_le (heap_lt X8_5.out) hF.size) (fun x => x)).trans ((hF.block _ (heap_lt X8_5.out) (HS.out _ Yg10)).trans X8_5.out)) Try.underlying37 rfl (ec_info _) rfl) (fun w2 hw2 => ?_)
      refine ⟨hF.trans hw2.any, ?_, ?_, ?_⟩
      · have hh := hP0.fr hw2 (fun x => x)
        simpa [upd] using hh
      · have hh := hP1.fr hw2 (fun x => x)
        simpa [upd] using hh
      · simp [upd, Act.put, d0]
    | 2, ho =>
      injection ho with ho
      subst ho
      have d0 : b 0 = true := hr 0 (by decide)
      have d1 : b 1 = true := hr 1 (by decide)
      simp only [d0, d1, if_true]
      refine wp_quiet_here _ (quiet_load 37 (.tmp 11) rfl (g11) rfl 37 _ (0, 0) _ (fun _ h => (Fr.block h _ (Nat.lt_of_lt_of_le (heap_lt X8_6.out) hF.size) (fun x => x)).trans ((hF.block _ (heap_lt X8_6.out) (HS.out _ Yg11)).trans X8_6.out)) Try.underlying37 rfl (ec_info _) rfl) (fun w2 hw2 => ?_)
      refine ⟨hF.trans hw2.any, ?_, ?_, ?_⟩
      · have hh := hP0.fr hw2 (fun x => x)
        simpa [upd] using hh
      · have hh := hP1.fr hw2 (fun x => x)
        simpa [upd] using hh
      · simp [upd, Act.put, d0, d1]
    | 3, ho =>
      injection ho with ho
      subst ho
      have d0 : b 0 = true := hr 0 (by decide)
      have d1 : b 1 = true := hr 1 (by decide)
      have d2 : b 2 = true := hr 2 (by decide)
      simp only [d0, d1, d2, if_true]
      refine wp_quiet_here (.agg (ec px')) ?_ (fun w2 hw2 => ?_)
      · go_big_quiet_op
        exact ⟨_, Calm.calls Cx2, by simp [Act.put]⟩
      refine ⟨hF.trans hw2.any, ?_, ?_, ?_⟩
      · have hh := hP0.fr hw2 (fun x => x)
        simpa [upd] using hh
      · have hh := hP1.fr hw2 (fun x => x)
        simpa [upd] using hh
      · simp [upd, Act.put, d0, d1, d2]
    | 4, ho =>
      injection ho with ho
      subst ho
      have d0 : b 0 = true := hr 0 (by decide)
      have d1 : b 1 = true := hr 1 (by decide)
      have d2 : b 2 = true := hr 2 (by decide)
      have d3 : b 3 = true := hr 3 (by decide)
      simp only [d0, d1, d2, d3, if_true]
      refine wp_quiet_here (.pointer (some ⟨gp, 0, none⟩)) ?_ (fun w2 hw2 => ?_)
      · go_big_quiet_op
        first
          | (simp [Act.put]; done)
          | exact ⟨_, fun _ _ => rfl, by simp [Act.put]⟩
      refine ⟨hF.trans hw2.any, ?_, ?_, ?_⟩
      · have hh := hP0.fr hw2 (fun x => x)
        simpa [upd] using hh
      · have hh := hP1.fr hw2 (fun x => x)
        simpa [upd] using hh
      · simp [upd, Act.put, d0, d1, d2, d3]
    | 5, ho =>
      injection ho with ho
      subst ho
      have d0 : b 0 = true := hr 0 (by decide)
      have d1 : b 1 = true := hr 1 (by decide)
      have d2 : b 2 = true := hr 2 (by decide)
      have d3 : b 3 = true := hr 3 (by decide)
      have d4 : b 4 = true := hr 4 (by decide)
      simp only [d0, d1, d2, d3, d4, if_true]
      refine wp_quiet_here (.pointer (some ⟨gp, 0, none⟩)) ?_ (fun w2 hw2 => ?_)
      · go_big_quiet_op
        first
          | (simp [Act.put]; done)
          | exact ⟨_, fun _ _ => rfl, by simp [Act.put]⟩
      refine ⟨hF.trans hw2.any, ?_, ?_, ?_⟩
      · have hh := hP0.fr hw2 (fun x => x)
        simpa [upd] using hh
      · have hh := hP1.fr hw2 (fun x => x)
        simpa [upd] using hh
      · simp [upd, Act.put, d0, d1, d2, d3, d4]
    | 6, ho =>
      injection ho with ho
      subst ho
      have d0 : b 0 = true := hr 0 (by decide)
      have d1 : b 1 = true := hr 1 (by decide)
      have d2 : b 2 = true := hr 2 (by decide)
      have d3 : b 3 = true := hr 3 (by decide)
      have d4 : b 4 = true := hr 4 (by decide)
      have d5 : b 5 = true := hr 5 (by decide)
      simp only [d0, d1, d2, d3, d4, d5, if_true]
      refine wp_store_mid 37 (.tmp 85) (.tmp 83) rfl (gp) 0 (ec px') rfl rfl hP0.there0 (ec_info _) (ec_all _) ?_
      refine ⟨hF.setCells _ _ (.inl (by simp)), ?_, ?_, ?_⟩
      · have hh := hP0.s0 px'
        simpa [upd] using hh
      · have hh := hP1.far (by first | assumption | omega) 0 (ec px').toList
        simpa [upd] using hh
      · simp [upd, Act.put, d0, d1, d2, d3, d4, d5]
    | j + 7, ho => exact absurd ho (by simp)
  intro b a W9 hall hI
  obtain ⟨hF, hP0, hP1, rfl⟩ := hI
  have t0 : b 0 = true := hall 0 (by simp)
  have t1 : b 1 = true := hall 1 (by simp)
  have t2 : b 2 = true := hall 2 (by simp)
  have t3 : b 3 = true := hall 3 (by simp)
  have t4 : b 4 = true := hall 4 (by simp)
  have t5 : b 5 = true := hall 5 (by simp)
  have t6 : b 6 = true := hall 6 (by simp)
  simp only [t0, t1, t2, t3, t4, t5, t6, if_true, true_implies] at hP0 hP1 ⊢
  have F9 : Hid (Fr (fun k => k = gp ∨ k = gq) w W9) := F8.out.trans hF
  have X9_0 := Lib.hid ((hF.block _ (heap_lt X8_0.out) (HS.out _ (Nat.le_refl _))).trans X8_0.out)
  have X9_1 := Lib.hid ((hF.block _ (heap_lt X8_1.out) (HS.out _ Yg6)).trans X8_1.out)
  have X9_2 := Lib.hid ((hF.block _ (heap_lt X8_2.out) (HS.out _ Yg7)).trans X8_2.out)
  have X9_3 := Lib.hid ((hF.block _ (heap_lt X8_3.out) (HS.out _ Yg8)).trans X8_3.out)
  have X9_4 := Lib.hid ((hF.block _ (heap_lt X8_4.out) (HS.out _ Yg9)).trans X8_4.out)
  have X9_5 := Lib.hid ((hF.block _ (heap_lt X8_5.out) (HS.out _ Yg10)).trans X8_5.out)
  have X9_6 := Lib.hid ((hF.block _ (heap_lt X8_6.out) (HS.out _ Yg11)).trans X8_6.out)
  have X9_7 := Lib.hid ((hF.block _ (heap_lt X8_7.out) (HS.out _ Yg12)).trans X8_7.out)
  have X9_8 := Lib.hid ((hF.block _ (heap_lt X8_8.out) (HS.out _ Yg13)).trans X8_8.out)
  have X9_9 := Lib.hid ((hF.block _ (heap_lt X8_9.out) (HS.out _ Yg14)).trans X8_9.out)
  have Z9_0 := Lib.hid hP0
  have Z9_1 := Lib.hid hP1
  clear hall hF hP0 hP1 t0 t1 t2 t3 t4 t5 t6 X8_0 X8_1 X8_2 X8_3 X8_4 X8_5 X8_6 X8_7 X8_8 X8_9 Z8_0 Z8_1 F8
  go_upto_region 9 with (fail)
  refine wp_region_inv2 (fun b a w' => Fr (fun k => k = gp ∨ k = gq) W9 w' ∧ P8 w' (gp) px' (if b 10 = true then pz' else pz) ∧ P8 w' (gq) qx' qz' ∧ a = ⟨#[.pointer (some ⟨gp, 0, none⟩), .pointer (some ⟨gq, 0, none⟩), .agg (ec x1), undef, undef, .pointer (some ⟨w.heap.size, 0, none⟩), .pointer (some ⟨g6, 0, none⟩), .pointer (some ⟨g7, 0, none⟩), .pointer (some ⟨g8, 0, none⟩), .pointer (some ⟨g9, 0, none⟩), .pointer (some ⟨g10, 0, none⟩), .pointer (some ⟨g11, 0, none⟩), .pointer (some ⟨g12, 0, none⟩), .pointer (some ⟨g13, 0, none⟩), .pointer (some ⟨g14, 0, none⟩), .pointer (some ⟨gp, 0, none⟩), .pointer (some ⟨gp, 0, none⟩), .pointer (some ⟨gp, 0, none⟩), .agg (ec px), .pointer (some ⟨gp, 0, none⟩), .pointer (some ⟨gp, 0, none⟩), .pointer (some ⟨gp, 4, none⟩), .agg (ec pz), .agg (ec va), .pointer (some ⟨gp, 0, none⟩), .pointer (some ⟨gp, 0, none⟩), .pointer (some ⟨gp, 0, none⟩), .agg (ec px), .pointer (some ⟨gp, 0, none⟩), .pointer (some ⟨gp, 0, none⟩), .pointer (some ⟨gp, 4, none⟩), .agg (ec pz), .agg (ec vb), .pointer (some ⟨gq, 0, none⟩), .pointer (some ⟨gq, 0, none⟩), .pointer (some ⟨gq, 0, none⟩), .agg (ec qx), .pointer (some ⟨gq, 0, none⟩), .pointer (some ⟨gq, 0, none⟩), .pointer (some ⟨gq, 4, none⟩), .agg (ec qz), .agg (ec vc), .pointer (some ⟨gq, 0, none⟩), .pointer (some ⟨gq, 0, none⟩), .pointer (some ⟨gq, 0, none⟩), .agg (ec qx), .pointer (some ⟨gq, 0, none⟩), .pointer (some ⟨gq, 0, none⟩), .pointer (some ⟨gq, 4, none⟩), .agg (ec qz), .agg (ec vd), .agg (ec va), .agg (ec vaa), .agg (ec vb), .agg (ec vbb), .agg (ec vd), .agg (ec va), .agg (ec vda), .agg (ec vc), .agg (ec vb), .agg (ec vcb), .agg (ec vaa), .agg (ec vbb), .agg (ec ve), .pointer (some ⟨gq, 0, none⟩), .agg (ec vda), .agg (ec vcb), .agg (ec vs1), .agg (ec qx'), .pointer (some ⟨gq, 0, none⟩), .pointer (some ⟨gq, 0, none⟩), .pointer (some ⟨gq, 0, none⟩), .agg (ec x1), .agg (ec vda), .agg (ec vcb), .agg (ec vs2), .agg (ec vs3), .agg (ec qz'), .pointer (some ⟨gq, 0, none⟩), .pointer (some ⟨gq, 4, none⟩), .pointer (some ⟨gp, 0, none⟩), .agg (ec vaa), .agg (ec vbb), .agg (ec px'), .pointer (some ⟨gp, 0, none⟩), .pointer (some ⟨gp, 0, none⟩), if b 0 = true then .pointer (some ⟨gp, 0, none⟩) else undef, if b 1 = true then .agg (ec ve) else undef, if b 2 = true then .agg (ec vaa) else undef, if b 3 = true then .agg (ec 121665) else undef, if b 4 = true then .agg (ec ve) else undef, if b 5 = true then .agg (ec vm) else undef, if b 6 = true then .agg (ec vt) else undef, if b 7 = true then .agg (ec pz') else undef, if b 8 = true then .pointer (some ⟨gp, 0, none⟩) else undef, if b 9 = true then .pointer (some ⟨gp, 4, none⟩) else undef], []⟩) (by kernel_rfl) (by kernel_rfl) ?start9 ?step9 ?done9
  case start9 => exact ⟨⟨rfl, rfl, rfl, Nat.le_refl _, fun _ _ _ => rfl⟩, by simp only [Bool.false_eq_true, if_false]; exact Z9_0.out, Z9_1.out, by simp⟩
  case step9 =>
    intro i o b a w1 ho hI hb hr hc
    obtain ⟨hF, hP0, hP1, rfl⟩ := hI
    match i, ho with
    | 0, ho =>
      injection ho with ho
      subst ho
      refine wp_quiet_here (.pointer (some ⟨gp, 0, none⟩)) (BigFrame.quiet_move _ rfl rfl) (fun w2 hw2 => ?_)
      refine ⟨hF.trans hw2.any, ?_, ?_, ?_⟩
      · have hh := hP0.fr hw2 (fun x => x)
        simpa [upd] using hh
      · have hh := hP1.fr hw2 (fun x => x)
        simpa [upd] using hh
      · simp [upd, Act.put]
    | 1, ho =>
      injection ho with ho
      subst ho
      refine wp_quiet_here _ (quiet_load 37 (.tmp 14) rfl (g14) rfl 37 _ (0, 0) _ (fun _ h => (Fr.block h _ (Nat.lt_of_lt_of_le (heap_lt X9_9.out) hF.size) (fun x => x)).trans ((hF.block _ (heap_lt X9_9.out) (HS.out _ Yg14)).trans X9_9.out)) Try.underlying37 rfl (ec_info _) rfl) (fun w2 hw2 => ?_)
      refine ⟨hF.trans hw2.any, ?_, ?_, ?_⟩
      · have hh := hP0.fr hw2 (fun x => x)
        simpa [upd] using hh
      · have hh := hP1.fr hw2 (fun x => x)
        simpa [upd] using hh
      · simp [upd, Act.put]
    | 2, ho =>
      injection ho with ho
      subst ho
      refine wp_quiet_here _ (quiet_load 37 (.tmp 10) rfl (g10) rfl 37 _ (0, 0) _ (fun _ h => (Fr.block h _ (Nat.lt_of_lt_of_le (heap_lt X9_5.out) hF.size) (fun x => x)).trans ((hF.block _ (heap_lt X9_5.out) (HS.out _ Yg10)).trans X9_5.out)) Try.underlying37 rfl (ec_info _) rfl) (fun w2 hw2 => ?_)
      refine ⟨hF.trans hw2.any, ?_, ?_, ?_⟩
      · have hh := hP0.fr hw2 (fun x => x)
        simpa [upd] using hh
      · have hh := hP1.fr hw2 (fun x => x)
        simpa [upd] using hh
      · simp [upd, Act.put]
    | 3, ho =>
      injection ho with ho
      subst ho
      refine wp_quiet_here (.agg (ec 121665)) ?_ (fun w2 hw2 => ?_)
      · simp only [Bool.false_eq_true] 
        go_big_quiet_op
        exact ⟨_, Calm.calls Ck, by simp [Act.put]⟩
      refine ⟨hF.trans hw2.any, ?_, ?_, ?_⟩
      · have hh := hP0.fr hw2 (fun x => x)
        simpa [upd] using hh
      · have hh := hP1.fr hw2 (fun x => x)
        simpa [upd] using hh
      · simp [upd, Act.put]
    | 4, ho =>
      injection ho with ho
      subst ho
      refine wp_quiet_here _ (quiet_load 37 (.tmp 14) rfl (g14) rfl 37 _ (0, 0) _ (fun _ h => (Fr.block h _ (Nat.lt_of_lt_of_le (heap_lt X9_9.out) hF.size) (fun x => x)).trans ((hF.block _ (heap_lt X9_9.out) (HS.out _ Yg14)).trans X9_9.out)) Try.underlying37 rfl (ec_info _) rfl) (fun w2 hw2 => ?_)
      refine ⟨hF.trans hw2.any, ?_, ?_, ?_⟩
      · have hh := hP0.fr hw2 (fun x => x)
        simpa [upd] using hh
      · have hh := hP1.fr hw2 (fun x => x)
        simpa [upd] using hh
      · simp [upd, Act.put]
    | 5, ho =>
      injection ho with ho
      subst ho
      simp [Region.binds] at hr
      have d3 : b 3 = true := by simp only [hr]
      have d4 : b 4 = true := by simp only [hr]
      simp only [hr, if_true]
      refine wp_quiet_here (.agg (ec vm)) ?_ (fun w2 hw2 => ?_)
      · go_big_quiet_op
        exact ⟨_, Calm.calls Cm, by simp [Act.put]⟩
      refine ⟨hF.trans hw2.any, ?_, ?_, ?_⟩
      · have hh := hP0.fr hw2 (fun x => x)
        simpa [upd] using hh
      · have hh := hP1.fr hw2 (fun x => x)
        simpa [upd] using hh
      · simp [upd, Act.put, hr]
    | 6, ho =>
      injection ho with ho
      subst ho
      simp [Region.binds] at hr
      have d2 : b 2 = true := by simp only [hr]
      have d5 : b 5 = true := by simp only [hr]
      simp only [hr, if_true]
      refine wp_quiet_here (.agg (ec vt)) ?_ (fun w2 hw2 => ?_)
      · go_big_quiet_op
        exact ⟨_, Calm.calls Ct, by simp [Act.put]⟩
      refine ⟨hF.trans hw2.any, ?_, ?_, ?_⟩
      · have hh := hP0.fr hw2 (fun x => x)
        simpa [upd] using hh
      · have hh := hP1.fr hw2 (fun x => x)
        simpa [upd] using hh
      · simp [upd, Act.put, hr]
    | 7, ho =>
      injection ho with ho
      subst ho
      simp [Region.binds] at hr
      have d1 : b 1 = true := by simp only [hr]
      have d6 : b 6 = true := by simp only [hr]
      simp only [hr, if_true]
      refine wp_quiet_here (.agg (ec pz')) ?_ (fun w2 hw2 => ?_)
      · go_big_quiet_op
        exact ⟨_, Calm.calls Cz2, by simp [Act.put]⟩
      refine ⟨hF.trans hw2.any, ?_, ?_, ?_⟩
      · have hh := hP0.fr hw2 (fun x => x)
        simpa [upd] using hh
      · have hh := hP1.fr hw2 (fun x => x)
        simpa [upd] using hh
      · simp [upd, Act.put, hr]
    | 8, ho =>
      injection ho with ho
      subst ho
      simp [Region.binds] at hr
      have d0 : b 0 = true := by simp only [hr]
      simp only [hr, if_true]
      refine wp_quiet_here (.pointer (some ⟨gp, 0, none⟩)) ?_ (fun w2 hw2 => ?_)
      · go_big_quiet_op
        first
          | (simp [Act.put]; done)
          | exact ⟨_, fun _ _ => rfl, by simp [Act.put]⟩
      refine ⟨hF.trans hw2.any, ?_, ?_, ?_⟩
      · have hh := hP0.fr hw2 (fun x => x)
        simpa [upd] using hh
      · have hh := hP1.fr hw2 (fun x => x)
        simpa [upd] using hh
      · simp [upd, Act.put, hr]
    | 9, ho =>
      injection ho with ho
      subst ho
      simp [Region.binds] at hr
      have d8 : b 8 = true := by simp only [hr]
      simp only [hr, if_true]
      refine wp_quiet_here (.pointer (some ⟨gp, 4, none⟩)) ?_ (fun w2 hw2 => ?_)
      · go_big_quiet_op
        first
          | (simp [Act.put]; done)
          | exact ⟨_, fun _ _ => rfl, by simp [Act.put]⟩
      refine ⟨hF.trans hw2.any, ?_, ?_, ?_⟩
      · have hh := hP0.fr hw2 (fun x => x)
        simpa [upd] using hh
      · have hh := hP1.fr hw2 (fun x => x)
        simpa [upd] using hh
      · simp [upd, Act.put, hr]
    | 10, ho =>
      injection ho with ho
      subst ho
      simp [Region.binds] at hr
      have d7 : b 7 = true := by simp only [hr]
      have d9 : b 9 = true := by simp only [hr]
      simp only [hr, if_true]
      refine wp_store_mid 37 (.tmp 95) (.tmp 93) rfl (gp) 4 (ec pz') rfl rfl hP0.there1 (ec_info _) (ec_all _) ?_
      refine ⟨hF.setCells _ _ (.inl (by simp)), ?_, ?_, ?_⟩
      · have hh := hP0.s1 pz'
        simpa [upd] using hh
      · have hh := hP1.far (by first | assumption | omega) 4 (ec pz').toList
        simpa [upd] using hh
      · simp [upd, Act.put, hr]
    | j + 11, ho => exact absurd ho (by simp)
  intro b a W10 hall hI
  obtain ⟨hF, hP0, hP1, rfl⟩ := hI
  have t0 : b 0 = true := hall 0 (by simp)
  have t1 : b 1 = true := hall 1 (by simp)
  have t2 : b 2 = true := hall 2 (by simp)
  have t3 : b 3 = true := hall 3 (by simp)
  have t4 : b 4 = true := hall 4 (by simp)
  have t5 : b 5 = true := hall 5 (by simp)
  have t6 : b 6 = true := hall 6 (by simp)
  have t7 : b 7 = true := hall 7 (by simp)
  have t8 : b 8 = true := hall 8 (by simp)
  have t9 : b 9 = true := hall 9 (by simp)
  have t10 : b 10 = true := hall 10 (by simp)
  simp only [t0, t1, t2, t3, t4, t5, t6, t7, t8, t9, t10, if_true, true_implies] at hP0 hP1 ⊢
  have F10 : Hid (Fr (fun k => k = gp ∨ k = gq) w W10) := F9.out.trans hF
  have X10_0 := Lib.hid ((hF.block _ (heap_lt X9_0.out) (HS.out _ (Nat.le_refl _))).trans X9_0.out)
  have X10_1 := Lib.hid ((hF.block _ (heap_lt X9_1.out) (HS.out _ Yg6)).trans X9_1.out)
  have X10_2 := Lib.hid ((hF.block _ (heap_lt X9_2.out) (HS.out _ Yg7)).trans X9_2.out)
  have X10_3 := Lib.hid ((hF.block _ (heap_lt X9_3.out) (HS.out _ Yg8)).trans X9_3.out)
  have X10_4 := Lib.hid ((hF.block _ (heap_lt X9_4.out) (HS.out _ Yg9)).trans X9_4.out)
  have X10_5 := Lib.hid ((hF.block _ (heap_lt X9_5.out) (HS.out _ Yg10)).trans X9_5.out)
  have X10_6 := Lib.hid ((hF.block _ (heap_lt X9_6.out) (HS.out _ Yg11)).trans X9_6.out)
  have X10_7 := Lib.hid ((hF.block _ (heap_lt X9_7.out) (HS.out _ Yg12)).trans X9_7.out)
  have X10_8 := Lib.hid ((hF.block _ (heap_lt X9_8.out) (HS.out _ Yg13)).trans X9_8.out)
  have X10_9 := Lib.hid ((hF.block _ (heap_lt X9_9.out) (HS.out _ Yg14)).trans X9_9.out)
  have Z10_0 := Lib.hid hP0
  have Z10_1 := Lib.hid hP1
  clear hall hF hP0 hP1 t0 t1 t2 t3 t4 t5 t6 t7 t8 t9 t10 X9_0 X9_1 X9_2 X9_3 X9_4 X9_5 X9_6 X9_7 X9_8 X9_9 Z9_0 Z9_1 F9
  go_wp2
  go_end0
  exact ⟨rfl, Z10_0.out, Z10_1.out, F10.out⟩
end Go.Proofs.Ytbkbodcncjhcmaa
