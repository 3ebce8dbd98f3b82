/- ChachaUnlike answers true for all words, and its arguments read behind the call as they did: the given statement ChachaUnlikeSaid. No condition. -/
import Derived.Test.YtnagnolbomcnjaaOp
namespace Go.Proofs.Ytnagnolbomcnjaa
set_option linter.unusedSimpArgs false
set_option linter.unusedVariables false
set_option linter.unusedVariables false
open Go.ChangeShapes Go.WideShapes Go.ChangeAt Go.RowKit

theorem Qr.inj {a b c d a' b' c' d' a2 b2 c2 d2 : Int} (ha : Wd a) (hb : Wd b) (hc : Wd c) (hd : Wd d) (ha' : Wd a') (hb' : Wd b') (hc' : Wd c') (hd' : Wd d')
    (h : Qr a b c d a2 b2 c2 d2) (k : Qr a' b' c' d' a2 b2 c2 d2) : a = a' ∧ b = b' ∧ c = c' ∧ d = d' := by
  obtain ⟨a1, b1, c1, d1, ha1, hd1, hc1, hb1, ha2, hd2, hc2, hb2⟩ := h.step
  obtain ⟨p1, q1, r1, s1, hp1, hs1, hr1, hq1, hp2, hs2, hr2, hq2⟩ := k.step
  obtain ⟨wa2, wb2, wc2, wd2⟩ := h.wd
  have wa1 : Wd a1 := by rw [ha1]; exact sm_wd _ _
  have wp1 : Wd p1 := by rw [hp1]; exact sm_wd _ _
  have wd1 : Wd d1 := by rw [hd1]; exact tl_wd 16 (by simp) (xr_wd hd wa1)
  have ws1 : Wd s1 := by rw [hs1]; exact tl_wd 16 (by simp) (xr_wd hd' wp1)
  have wc1 : Wd c1 := by rw [hc1]; exact sm_wd _ _
  have wr1 : Wd r1 := by rw [hr1]; exact sm_wd _ _
  have wb1 : Wd b1 := by rw [hb1]; exact tl_wd 12 (by simp) (xr_wd hb wc1)
  have wq1 : Wd q1 := by rw [hq1]; exact tl_wd 12 (by simp) (xr_wd hb' wr1)
  have e1 : xr b1 c2 = xr q1 c2 := by
    have h1 := rt_tl7 _ (xr_wd wb1 wc2)
    have h2 := rt_tl7 _ (xr_wd wq1 wc2)
    rw [← h1, ← h2]
    show rz 7 (tl 7 _) = rz 7 (tl 7 _)
    rw [← hb2, ← hq2]
  have b1q1 : b1 = q1 := by rw [← xr_xr wb1 wc2, ← xr_xr wq1 wc2, e1]
  have c1r1 : c1 = r1 := by rw [← sub_sm (y := d2) wc1, ← sub_sm (y := d2) wr1, ← hc2, ← hr2]
  have e2 : xr d1 a2 = xr s1 a2 := by
    have h1 := rt_tl8 _ (xr_wd wd1 wa2)
    have h2 := rt_tl8 _ (xr_wd ws1 wa2)
    rw [← h1, ← h2]
    show rz 8 (tl 8 _) = rz 8 (tl 8 _)
    rw [← hd2, ← hs2]
  have d1s1 : d1 = s1 := by rw [← xr_xr wd1 wa2, ← xr_xr ws1 wa2, e2]
  have a1p1 : a1 = p1 := by rw [← sub_sm (y := b1) wa1, ← sub_sm (y := b1) wp1, ← ha2, b1q1, ← hp2]
  subst b1q1 c1r1 d1s1 a1p1
  have e3 : xr b c1 = xr b' c1 := by
    have h1 := rt_tl12 _ (xr_wd hb wc1)
    have h2 := rt_tl12 _ (xr_wd hb' wc1)
    rw [← h1, ← h2]
    show rz 12 (tl 12 _) = rz 12 (tl 12 _)
    rw [← hb1, ← hq1]
  have bb : b = b' := by rw [← xr_xr hb wc1, ← xr_xr hb' wc1, e3]
  have cc : c = c' := by rw [← sub_sm (y := d1) hc, ← sub_sm (y := d1) hc', ← hc1, ← hr1]
  have e4 : xr d a1 = xr d' a1 := by
    have h1 := rt_tl16 _ (xr_wd hd wa1)
    have h2 := rt_tl16 _ (xr_wd hd' wa1)
    rw [← h1, ← h2]
    show rz 16 (tl 16 _) = rz 16 (tl 16 _)
    rw [← hd1, ← hs1]
  have dd : d = d' := by rw [← xr_xr hd wa1, ← xr_xr hd' wa1, e4]
  subst bb
  have aa : a = a' := by rw [← sub_sm (y := b) ha, ← sub_sm (y := b) ha', ← ha1, ← hp1]
  exact ⟨aa, rfl, cc, dd⟩
theorem unlike {x0 y0 z0 t0 x1 y1 z1 t1 x2 y2 z2 t2 x3 y3 z3 t3 : Int} (wx0 : Wd x0) (wy0 : Wd y0) (wz0 : Wd z0) (wt0 : Wd t0) (wx1 : Wd x1) (wy1 : Wd y1) (wz1 : Wd z1) (wt1 : Wd t1)
    (h : Qr x0 y0 z0 t0 x2 y2 z2 t2) (k : Qr x1 y1 z1 t1 x3 y3 z3 t3) : [x2, y2, z2, t2] = [x3, y3, z3, t3] ↔ [x0, y0, z0, t0] = [x1, y1, z1, t1] := by
  constructor
  · intro e
    injection e with e1 e
    injection e with e2 e
    injection e with e3 e
    injection e with e4 e
    subst e1 e2 e3 e4
    obtain ⟨rfl, rfl, rfl, rfl⟩ := Qr.inj wx0 wy0 wz0 wt0 wx1 wy1 wz1 wt1 h k
    rfl
  · intro e
    injection e with e1 e
    injection e with e2 e
    injection e with e3 e
    injection e with e4 e
    subst e1 e2 e3 e4
    obtain ⟨rfl, rfl, rfl, rfl⟩ := h.fn k
    rfl

set_option maxRecDepth 100000 in
set_option maxHeartbeats 4000000 in
theorem law_unlike_any (x0 y0 z0 t0 x1 y1 z1 t1 : Int) (w : World) (wx0 : Wd x0) (wy0 : Wd y0) (wz0 : Wd z0) (wt0 : Wd t0) (wx1 : Wd x1) (wy1 : Wd y1) (wz1 : Wd z1) (wt1 : Wd t1) :
    Calls Try.prog 7 #[.agg (vs .u32 [x0, y0, z0, t0]), .agg (vs .u32 [x1, y1, z1, t1])] w fun e w' => e = .returned (.bool true) ∧ Fr (fun _ => False) w w' := by
  obtain ⟨V0, hV0⟩ : ∃ V, V = vs .u32 [x0, y0, z0, t0] := ⟨_, rfl⟩
  have HS : Hid ((Try.prog.info? 23).map (·.size) = some V0.size) := by show _ = _; rw [hV0, size4]; rfl
  obtain ⟨V1, hV1⟩ : ∃ V, V = vs .u32 [x1, y1, z1, t1] := ⟨_, rfl⟩
  have HS1 : Hid ((Try.prog.info? 23).map (·.size) = some V1.size) := by show _ = _; rw [hV1, size4]; rfl
  obtain ⟨x2, y2, z2, t2, hq⟩ := qr_ex wx0 wy0 wz0 wt0
  obtain ⟨R, hR⟩ : ∃ R, R = vs .u32 [x2, y2, z2, t2] := ⟨_, rfl⟩
  obtain ⟨x3, y3, z3, t3, hp⟩ := qr_ex wx1 wy1 wz1 wt1
  obtain ⟨P, hP⟩ : ∃ P, P = vs .u32 [x3, y3, z3, t3] := ⟨_, rfl⟩
  have C0 : ∀ W, Calls Try.prog 13 #[.agg V0] W fun e w' => e = .returned (.agg R) ∧ Fr (fun _ => False) W w' := fun W => by rw [hV0, hR]; exact quarterA_is _ _ _ _ _ _ _ _ W wx0 wy0 wz0 wt0 hq
  have C1 : ∀ W, Calls Try.prog 13 #[.agg V1] W fun e w' => e = .returned (.agg P) ∧ Fr (fun _ => False) W w' := fun W => by rw [hV1, hP]; exact quarterA_is _ _ _ _ _ _ _ _ W wx1 wy1 wz1 wt1 hp
  obtain ⟨t, ht⟩ : ∃ t, t = decide ([x0, y0, z0, t0] = [x1, y1, z1, t1]) := ⟨_, rfl⟩
  have hE : ∀ W, (Op.equalIn 10000 23 (.agg V0) (.agg V1)).run Try.prog W = .ok t W := fun W => by rw [hV0, hV1, ht]; exact eq23 _ _ rfl rfl W
  have hE2 : ∀ W, (Op.equalIn 10000 23 (.agg R) (.agg P)).run Try.prog W = .ok t W := fun W => by
    rw [hR, hP, ht]
    refine (eq23 _ _ rfl rfl W).trans ?_
    rw [decide_eq_decide.2 (unlike wx0 wy0 wz0 wt0 wx1 wy1 wz1 wt1 hq hp)]
  have hT : (t == t) = true := by cases t <;> rfl
  have CW := works_is
  rw [← hV0, ← hV1]
  clear hV0 hV1 hR hP hq hp ht wx0 wy0 wz0 wt0 wx1 wy1 wz1 wt1
  go_enter Try.func7, Try.ntmps7
  go_upto_region 1 with (fail)
  generalize hW : ((w.alloc (.cells V0 23)).alloc (.cells V1 23)) = W0
  have HW := Lib.hid (calm2 hW)
  have X0 := Lib.hid HW.out.1
  have X1 := Lib.hid HW.out.2.1
  have F0 : Hid (Fr (fun _ => False) w W0) := HW.out.2.2
  clear hW HW
  refine wp_region_quiet (C := Calm W0) (by kernel_rfl) (by kernel_rfl) (Calm.start _ _ (Fr.refl _ _)) ?_
  refine BigFrame.wpQuiet_want rfl fun K hK => ?_
  try simp only [Act.put, List.setIfInBounds_toArray, List.set_cons_succ, List.set_cons_zero]
  go_big_quiet_op
  refine ⟨_, Calm.calls CW, hK _ ?_⟩
  refine BigFrame.wpQuiet_want rfl fun K hK => ?_
  try simp only [Act.put, List.setIfInBounds_toArray, List.set_cons_succ, List.set_cons_zero]
  go_big_quiet_op
  refine hK _ ?_
  refine BigFrame.wpQuiet_want rfl fun K hK => quiet_load 23 (.tmp 2) rfl (w.heap.size) rfl 23 _ (0, 0) _ (fun _ h => Calm.at X0.out h) Try.underlying23 rfl HS.out (hK _ ?_)
  refine BigFrame.wpQuiet_want rfl fun K hK => ?_
  try simp only [Act.put, List.setIfInBounds_toArray, List.set_cons_succ, List.set_cons_zero]
  go_big_quiet_op
  refine ⟨_, Calm.calls C0, hK _ ?_⟩
  refine BigFrame.wpQuiet_want rfl fun K hK => quiet_load 23 (.tmp 3) rfl (w.heap.size + 1) rfl 23 _ (0, 0) _ (fun _ h => Calm.at X1.out h) Try.underlying23 rfl HS1.out (hK _ ?_)
  refine BigFrame.wpQuiet_want rfl fun K hK => ?_
  try simp only [Act.put, List.setIfInBounds_toArray, List.set_cons_succ, List.set_cons_zero]
  go_big_quiet_op
  refine ⟨_, Calm.calls C1, hK _ ?_⟩
  refine BigFrame.wpQuiet_want rfl fun K hK => ?_
  try simp only [Act.put, List.setIfInBounds_toArray, List.set_cons_succ, List.set_cons_zero]
  go_big_quiet_op
  first
    | refine ⟨_, fun _ _ => rfl, hK _ ?_⟩
    | refine hK _ ?_
  refine BigFrame.wpQuiet_want rfl fun K hK => quiet_load 23 (.tmp 2) rfl (w.heap.size) rfl 23 _ (0, 0) _ (fun _ h => Calm.at X0.out h) Try.underlying23 rfl HS.out (hK _ ?_)
  refine BigFrame.wpQuiet_want rfl fun K hK => quiet_load 23 (.tmp 3) rfl (w.heap.size + 1) rfl 23 _ (0, 0) _ (fun _ h => Calm.at X1.out h) Try.underlying23 rfl HS1.out (hK _ ?_)
  refine BigFrame.wpQuiet_want rfl fun K hK => ?_
  try simp only [Act.put, List.setIfInBounds_toArray, List.set_cons_succ, List.set_cons_zero]
  go_big_quiet_op
  first
    | refine ⟨_, fun _ _ => rfl, hK _ ?_⟩
    | refine hK _ ?_
  refine BigFrame.wpQuiet_want rfl fun K hK => ?_
  try simp only [Act.put, List.setIfInBounds_toArray, List.set_cons_succ, List.set_cons_zero]
  go_big_quiet_op
  first
    | refine ⟨_, fun _ _ => rfl, hK _ ?_⟩
    | refine hK _ ?_
  refine BigFrame.wpQuiet_want rfl fun K hK => ?_
  try simp only [Act.put, List.setIfInBounds_toArray, List.set_cons_succ, List.set_cons_zero]
  go_big_quiet_op
  first
    | refine ⟨_, fun _ _ => rfl, hK _ ?_⟩
    | refine hK _ ?_
  refine BigFrame.wpQuiet_want rfl fun K hK => ?_
  try simp only [Act.put, List.setIfInBounds_toArray, List.set_cons_succ, List.set_cons_zero]
  go_big_quiet_op
  refine hK _ ?_
  refine wpQuiet_nil ?_
  intro w9 hw9
  have F9 : Hid (Fr (fun _ => False) w w9) := F0.out.trans hw9
  clear hw9
  try simp only [Act.put, List.setIfInBounds_toArray, List.set_cons_succ, List.set_cons_zero]
  go_wp2
  go_ret
  exact ⟨rfl, F9.out⟩

set_option maxRecDepth 100000 in
theorem law_unlike_lifted (os : Os) (started : os.Started) (H : Type) (enc : TypeId × Value → H) :
    ReturnsInHanded {} Try.checked os 7 .any (Rows.chachaUnlikeSpec.pre6 enc Try.prog Try.f7 Rows.chachaUnlikeRow.domain false) (Rows.chachaUnlikeSpec.post enc Try.prog Try.f7 false true false false) := by
  refine returnsInHanded_of_change (C := Try.checked) own started (by kernel_rfl) Try.func7
    (ChangeSpec.witness6 (enc := enc) (C := Try.checked) false ⟨#[], #[.agg (vs .u32 [0, 0, 0, 0]), .agg (vs .u32 [0, 0, 0, 0])], []⟩ 8 (by kernel_rfl) (by kernel_rfl) (by kernel_rfl) (by kernel_rfl)) ?_
  intro W base args ds gs before hval0 hW hcnd _
  have hval : ∀ (j : Nat) t v, Try.f7.params[j]? = some t → args[j]? = some v → Value.okWide Try.prog W .any base t v := hval0
  have hW' := hW
  obtain ⟨p, q, hA0, hV, rfl, hfz, hnd⟩ := hW
  have hA : DataW.TrodAll enc Try.prog W 0 (fun _ => true) true Try.f7.params.toList args.toList ds p := hA0
  rw [Try.params7] at hA hval
  obtain ⟨v0, vs0, d0, ds0, p0, q0, hargs, rfl, rfl, h0, r0⟩ := trodAll_cons hA
  obtain ⟨v1, vs1, d1, ds1, p1, q1, rfl, rfl, rfl, h1, r1⟩ := trodAll_cons r0
  obtain ⟨rfl, rfl, rfl⟩ := trodAll_nil r1
  obtain rfl : args = #[v0, v1] := by cases args; simp_all
  obtain ⟨rfl, rfl⟩ := trodVars_none hV
  obtain ⟨x0, y0, z0, t0, rfl, wx0, wy0, wz0, wt0⟩ := open_q4 (hval 0 23 v0 rfl rfl) h0
  obtain ⟨x1, y1, z1, t1, rfl, wx1, wy1, wz1, wt1⟩ := open_q4 (hval 1 23 v1 rfl rfl) h1
  clear hA0 hval0
  refine (law_unlike_any x0 y0 z0 t0 x1 y1 z1 t1 W wx0 wy0 wz0 wt0 wx1 wy1 wz1 wt1).mono fun e W' ⟨he, hg⟩ => ?_
  subst he
  exact ⟨_, rfl, post_true rfl hW' (by kernel_rfl) rfl rfl hg⟩

theorem chachaUnlike_holds : Rows.ChachaUnlikeSaid :=
  OpenClaim.holds_of_wide 7 Try.f7 rfl rfl rfl rfl rfl rfl rfl ⟨rfl, rfl, rfl, rfl, rfl⟩ rfl rfl rfl rfl rfl (by kernel_rfl) Try.func7 (by kernel_rfl)
    (of_decide_eq_true (by kernel_rfl)) (by unfold Func.isWrapper; first | (rw [if_pos (by decide +kernel)]; kernel_rfl) | (rw [if_neg (by decide +kernel)]; exact ⟨rfl, rfl⟩))
    (fun os started H enc _ => law_unlike_lifted os started H enc)
#print axioms chachaUnlike_holds
end Go.Proofs.Ytnagnolbomcnjaa
