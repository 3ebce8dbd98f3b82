/- ChachaBack answers true for all four words, and its argument reads behind the call as it did: the given statement ChachaBackSaid. No condition. -/
import Derived.Test.YtnagnolbomcnjaaOp
namespace Go.Proofs.Ytnagnolbomcnjaa
set_option linter.unusedSimpArgs false
set_option linter.unusedVariables false
set_option linter.unusedVariables false
open Go.ChangeShapes Go.WideShapes Go.ChangeAt Go.RowKit

set_option maxRecDepth 100000 in
set_option maxHeartbeats 4000000 in
theorem law_back_any (x0 y0 z0 t0 : Int) (w : World) (wx0 : Wd x0) (wy0 : Wd y0) (wz0 : Wd z0) (wt0 : Wd t0) :
    Calls Try.prog 6 #[.agg (vs .u32 [x0, y0, z0, t0])] w fun e w' => e = .returned (.bool true) ∧ Fr (fun _ => False) w w' := by
  obtain ⟨V0, hV0⟩ : ∃ V, V = vs .u32 [x0, y0, z0, t0] := ⟨_, rfl⟩
  have HS : Hid ((Try.prog.info? 23).map (·.size) = some V0.size) := by show _ = _; rw [hV0, size4]; rfl
  obtain ⟨x2, y2, z2, t2, hq⟩ := qr_ex wx0 wy0 wz0 wt0
  obtain ⟨R, hR⟩ : ∃ R, R = vs .u32 [x2, y2, z2, t2] := ⟨_, rfl⟩
  have C0 : ∀ W, Calls Try.prog 13 #[.agg V0] W fun e w' => e = .returned (.agg R) ∧ Fr (fun _ => False) W w' := fun W => by rw [hV0, hR]; exact quarterA_is _ _ _ _ _ _ _ _ W wx0 wy0 wz0 wt0 hq
  have C1 : ∀ W, Calls Try.prog 22 #[.agg R] W fun e w' => e = .returned (.agg V0) ∧ Fr (fun _ => False) W w' := fun W => by rw [hV0, hR]; exact back_is _ _ _ _ _ _ _ _ W wx0 wy0 wz0 wt0 hq
  have hE : ∀ W, (Op.equalIn 10000 23 (.agg V0) (.agg V0)).run Try.prog W = .ok true W := fun W => by rw [hV0]; exact (eq23 _ _ rfl rfl W).trans (by rw [decide_eq_true rfl])
  have CW := works_is
  rw [← hV0]
  clear hV0 hR hq wx0 wy0 wz0 wt0
  go_enter Try.func6, Try.ntmps6
  go_upto_region 1 with (fail)
  generalize hW : (w.alloc (.cells V0 23)) = W0
  have HW := Lib.hid (calm1a hW)
  have X0 := Lib.hid HW.out.1
  have F0 : Hid (Fr (fun _ => False) w W0) := HW.out.2
  clear hW HW
  refine wp_region_quiet (C := Calm W0) (by kernel_rfl) (by kernel_rfl) (Calm.start _ _ (Fr.refl _ _)) ?_
  refine BigFrame.wpQuiet_want rfl fun K hK => ?_
  try simp only [Act.put, List.setIfInBounds_toArray, List.set_cons_succ, List.set_cons_zero]
  go_big_quiet_op
  refine ⟨_, Calm.calls CW, hK _ ?_⟩
  refine BigFrame.wpQuiet_want rfl fun K hK => ?_
  try simp only [Act.put, List.setIfInBounds_toArray, List.set_cons_succ, List.set_cons_zero]
  go_big_quiet_op
  refine hK _ ?_
  refine BigFrame.wpQuiet_want rfl fun K hK => quiet_load 23 (.tmp 1) rfl (w.heap.size) rfl 23 _ (0, 0) _ (fun _ h => Calm.at X0.out h) Try.underlying23 rfl HS.out (hK _ ?_)
  refine BigFrame.wpQuiet_want rfl fun K hK => ?_
  try simp only [Act.put, List.setIfInBounds_toArray, List.set_cons_succ, List.set_cons_zero]
  go_big_quiet_op
  refine ⟨_, Calm.calls C0, hK _ ?_⟩
  refine BigFrame.wpQuiet_want rfl fun K hK => ?_
  try simp only [Act.put, List.setIfInBounds_toArray, List.set_cons_succ, List.set_cons_zero]
  go_big_quiet_op
  refine ⟨_, Calm.calls C1, hK _ ?_⟩
  refine BigFrame.wpQuiet_want rfl fun K hK => quiet_load 23 (.tmp 1) rfl (w.heap.size) rfl 23 _ (0, 0) _ (fun _ h => Calm.at X0.out h) Try.underlying23 rfl HS.out (hK _ ?_)
  refine BigFrame.wpQuiet_want rfl fun K hK => ?_
  try simp only [Act.put, List.setIfInBounds_toArray, List.set_cons_succ, List.set_cons_zero]
  go_big_quiet_op
  first
    | refine ⟨_, fun _ _ => rfl, hK _ ?_⟩
    | refine hK _ ?_
  refine BigFrame.wpQuiet_want rfl fun K hK => ?_
  try simp only [Act.put, List.setIfInBounds_toArray, List.set_cons_succ, List.set_cons_zero]
  go_big_quiet_op
  first
    | refine ⟨_, fun _ _ => rfl, hK _ ?_⟩
    | refine hK _ ?_
  refine BigFrame.wpQuiet_want rfl fun K hK => ?_
  try simp only [Act.put, List.setIfInBounds_toArray, List.set_cons_succ, List.set_cons_zero]
  go_big_quiet_op
  refine hK _ ?_
  refine wpQuiet_nil ?_
  intro w9 hw9
  have F9 : Hid (Fr (fun _ => False) w w9) := F0.out.trans hw9
  clear hw9
  try simp only [Act.put, List.setIfInBounds_toArray, List.set_cons_succ, List.set_cons_zero]
  go_wp2
  go_ret
  exact ⟨rfl, F9.out⟩

set_option maxRecDepth 100000 in
theorem law_back_lifted (os : Os) (started : os.Started) (H : Type) (enc : TypeId × Value → H) :
    ReturnsInHanded {} Try.checked os 6 .any (Rows.chachaBackSpec.pre6 enc Try.prog Try.f6 Rows.chachaBackRow.domain false) (Rows.chachaBackSpec.post enc Try.prog Try.f6 false true false false) := by
  refine returnsInHanded_of_change (C := Try.checked) own started (by kernel_rfl) Try.func6
    (ChangeSpec.witness6 (enc := enc) (C := Try.checked) false ⟨#[], #[.agg (vs .u32 [0, 0, 0, 0])], []⟩ 8 (by kernel_rfl) (by kernel_rfl) (by kernel_rfl) (by kernel_rfl)) ?_
  intro W base args ds gs before hval0 hW hcnd _
  have hval : ∀ (j : Nat) t v, Try.f6.params[j]? = some t → args[j]? = some v → Value.okWide Try.prog W .any base t v := hval0
  have hW' := hW
  obtain ⟨p, q, hA0, hV, rfl, hfz, hnd⟩ := hW
  have hA : DataW.TrodAll enc Try.prog W 0 (fun _ => true) true Try.f6.params.toList args.toList ds p := hA0
  rw [Try.params6] at hA hval
  obtain ⟨v0, vs0, d0, ds0, p0, q0, hargs, rfl, rfl, h0, r0⟩ := trodAll_cons hA
  obtain ⟨rfl, rfl, rfl⟩ := trodAll_nil r0
  obtain rfl : args = #[v0] := by cases args; simp_all
  obtain ⟨rfl, rfl⟩ := trodVars_none hV
  obtain ⟨x0, y0, z0, t0, rfl, wx0, wy0, wz0, wt0⟩ := open_q4 (hval 0 23 v0 rfl rfl) h0
  clear hA0 hval0
  refine (law_back_any x0 y0 z0 t0 W wx0 wy0 wz0 wt0).mono fun e W' ⟨he, hg⟩ => ?_
  subst he
  exact ⟨_, rfl, post_true rfl hW' (by kernel_rfl) rfl rfl hg⟩

theorem chachaBack_holds : Rows.ChachaBackSaid :=
  OpenClaim.holds_of_wide 6 Try.f6 rfl rfl rfl rfl rfl rfl rfl ⟨rfl, rfl, rfl, rfl, rfl⟩ rfl rfl rfl rfl rfl (by kernel_rfl) Try.func6 (by kernel_rfl)
    (of_decide_eq_true (by kernel_rfl)) (by unfold Func.isWrapper; first | (rw [if_pos (by decide +kernel)]; kernel_rfl) | (rw [if_neg (by decide +kernel)]; exact ⟨rfl, rfl⟩))
    (fun os started H enc _ => law_back_lifted os started H enc)
#print axioms chachaBack_holds
end Go.Proofs.Ytnagnolbomcnjaa
