/- FieldSub answers true for all two numbers of 32 bytes, and its arguments read behind the call as they did: the given statement FieldSubSaid. No condition. -/
import Derived.Test.YtmhoblefpkjdlaaLift
import Derived.Test.YtmhoblefpkjdlaaRefE
namespace Go.Proofs.Ytmhoblefpkjdlaa
open Go.ChangeShapes Go.WideShapes Go.ChangeAt Go.RowKit

set_option maxHeartbeats 2000000 in
theorem law_sub_any (l m : List Int) (w : World) (hl : l.length = 32) (bl : Bys l) (hm : m.length = 32) (bm : Bys m) :
    Calls Try.prog 5 #[.agg (vs .u8 l), .agg (vs .u8 m)] w fun e w' => e = .returned (.bool true) ∧ Fr (fun _ => False) w w' := by
  have ol := frm_ok l hl bl
  have om := frm_ok m hm bm
  have C1 := fun W => from_el l W hl bl
  have C2 := fun W => from_el m W hm bm
  have C3 := fun W => sub_is (fe l) (fe m) _ W (El.mod _) (El.mod _) (Lib.hid rfl)
  have C4 : ∀ W, Calls Try.prog 15 #[.agg (vs .u8 l)] W fun e w' => e = .returned (.agg (vs .i64 (frm l))) ∧ Fr (fun _ => False) W w' := fun W => rfrom_is l W hl bl
  have C5 : ∀ W, Calls Try.prog 15 #[.agg (vs .u8 m)] W fun e w' => e = .returned (.agg (vs .i64 (frm m))) ∧ Fr (fun _ => False) W w' := fun W => rfrom_is m W hm bm
  have C6 := fun W => rsub_is (frm l) (frm m) W ⟨ol.len, ol.digs⟩ ⟨om.len, om.digs⟩
  have C7 := fun W => is_yes _ _ W (El.mod _) (rsub_ok ol om)
  unfold nm at C6 C7
  have H1 : Hid ((Try.prog.info? 22).map (·.size) = some (vs .u8 l).size) := by show _ = _; rw [size22, vs_size, hl]
  have H2 : Hid ((Try.prog.info? 22).map (·.size) = some (vs .u8 m).size) := by show _ = _; rw [size22, vs_size, hm]
  clear hl bl hm bm ol om
  go_enter Try.func5, Try.ntmps5
  go_wp2
  generalize hW : (w.alloc (.cells (vs .u8 l) 22)).alloc (.cells (vs .u8 m) 22) = W0
  have HW := Lib.hid (calm2 hW)
  clear hW
  refine wp_region_quiet (C := Calm W0) (by kernel_rfl) (by kernel_rfl) (Calm.start _ _ (Fr.refl _ _)) ?_
  refine BigFrame.wpQuiet_want rfl fun K hK => quiet_load 22 (.tmp 2) rfl (w.heap.size) rfl 22 _ (0, 0) _ (fun _ h => Calm.at HW.out.1 h) Try.underlying22 rfl H1.out (hK _ ?_)
  refine BigFrame.wpQuiet_want rfl fun K hK => ?_
  try simp only [Act.put, List.setIfInBounds_toArray, List.set_cons_succ, List.set_cons_zero]
  go_big_quiet_op
  refine ⟨_, Calm.calls C1, hK _ ?_⟩
  refine BigFrame.wpQuiet_want rfl fun K hK => quiet_load 22 (.tmp 3) rfl (w.heap.size + 1) rfl 22 _ (0, 0) _ (fun _ h => Calm.at HW.out.2.1 h) Try.underlying22 rfl H2.out (hK _ ?_)
  refine BigFrame.wpQuiet_want rfl fun K hK => ?_
  try simp only [Act.put, List.setIfInBounds_toArray, List.set_cons_succ, List.set_cons_zero]
  go_big_quiet_op
  refine ⟨_, Calm.calls C2, hK _ ?_⟩
  refine BigFrame.wpQuiet_want rfl fun K hK => ?_
  try simp only [Act.put, List.setIfInBounds_toArray, List.set_cons_succ, List.set_cons_zero]
  go_big_quiet_op
  refine ⟨_, Calm.calls C3, hK _ ?_⟩
  refine BigFrame.wpQuiet_want rfl fun K hK => quiet_load 22 (.tmp 2) rfl (w.heap.size) rfl 22 _ (0, 0) _ (fun _ h => Calm.at HW.out.1 h) Try.underlying22 rfl H1.out (hK _ ?_)
  refine BigFrame.wpQuiet_want rfl fun K hK => ?_
  try simp only [Act.put, List.setIfInBounds_toArray, List.set_cons_succ, List.set_cons_zero]
  go_big_quiet_op
  refine ⟨_, Calm.calls C4, hK _ ?_⟩
  refine BigFrame.wpQuiet_want rfl fun K hK => quiet_load 22 (.tmp 3) rfl (w.heap.size + 1) rfl 22 _ (0, 0) _ (fun _ h => Calm.at HW.out.2.1 h) Try.underlying22 rfl H2.out (hK _ ?_)
  refine BigFrame.wpQuiet_want rfl fun K hK => ?_
  try simp only [Act.put, List.setIfInBounds_toArray, List.set_cons_succ, List.set_cons_zero]
  go_big_quiet_op
  refine ⟨_, Calm.calls C5, hK _ ?_⟩
  refine BigFrame.wpQuiet_want rfl fun K hK => ?_
  try simp only [Act.put, List.setIfInBounds_toArray, List.set_cons_succ, List.set_cons_zero]
  go_big_quiet_op
  refine ⟨_, Calm.calls C6, hK _ ?_⟩
  refine BigFrame.wpQuiet_want rfl fun K hK => ?_
  try simp only [Act.put, List.setIfInBounds_toArray, List.set_cons_succ, List.set_cons_zero]
  go_big_quiet_op
  refine ⟨_, Calm.calls C7, hK _ ?_⟩
  refine BigFrame.wpQuiet_want rfl fun K hK => ?_
  go_big_quiet_op
  refine hK _ ?_
  refine wpQuiet_nil ?_
  intro w1 hw1
  have F1 : Hid (Fr (fun _ => False) w w1) := HW.out.2.2.trans hw1
  clear hw1
  go_wp2
  go_ret
  exact ⟨rfl, F1.out⟩

set_option maxRecDepth 100000 in
theorem law_sub_lifted (os : Os) (started : os.Started) (H : Type) (enc : TypeId × Value → H) :
    ReturnsInHanded {} Try.checked os 5 .any (Rows.fieldSubSpec.pre6 enc Try.prog Try.f5 Rows.fieldSubRow.domain false) (Rows.fieldSubSpec.post enc Try.prog Try.f5 false true false false) := by
  refine returnsInHanded_of_change (C := Try.checked) own started (by kernel_rfl) Try.func5
    (ChangeSpec.witness6 (enc := enc) (C := Try.checked) false ⟨#[], #[.agg (vs .u8 (List.replicate 32 0)), .agg (vs .u8 (List.replicate 32 0))], []⟩ 8 (by kernel_rfl) (by kernel_rfl) (by kernel_rfl) (by kernel_rfl)) ?_
  intro W base args ds gs before hval0 hW hcnd _
  have hval : ∀ (j : Nat) t v, Try.f5.params[j]? = some t → args[j]? = some v → Value.okWide Try.prog W .any base t v := hval0
  have hW' := hW
  obtain ⟨p, q, hA0, hV, rfl, hfz, hnd⟩ := hW
  have hA : DataW.TrodAll enc Try.prog W 0 (fun _ => true) true Try.f5.params.toList args.toList ds p := hA0
  rw [Try.params5] at hA hval
  obtain ⟨v0, vs0, d0, ds0, p0, q0, hargs, rfl, rfl, h0, r0⟩ := trodAll_cons hA
  obtain ⟨v1, vs1, d1, ds1, p1, q1, rfl, rfl, rfl, h1, r1⟩ := trodAll_cons r0
  obtain ⟨rfl, rfl, rfl⟩ := trodAll_nil r1
  obtain rfl : args = #[v0, v1] := by cases args; simp_all
  obtain ⟨rfl, rfl⟩ := trodVars_none hV
  obtain ⟨l0, rfl, e0, b0⟩ := open_bytes (hval 0 22 v0 rfl rfl) h0
  obtain ⟨l1, rfl, e1, b1⟩ := open_bytes (hval 1 22 v1 rfl rfl) h1
  clear hA0 hval0
  refine (law_sub_any l0 l1 W e0 b0 e1 b1).mono fun e W' ⟨he, hg⟩ => ?_
  subst he
  exact ⟨_, rfl, post_true rfl hW' (by kernel_rfl) rfl rfl hg⟩

theorem fieldSub_holds : Rows.FieldSubSaid :=
  OpenClaim.holds_of_wide 5 Try.f5 rfl rfl rfl rfl rfl rfl rfl ⟨rfl, rfl, rfl, rfl, rfl⟩ rfl rfl rfl rfl rfl (by kernel_rfl) Try.func5 (by kernel_rfl)
    (of_decide_eq_true (by kernel_rfl)) (by unfold Func.isWrapper; first | (rw [if_pos (by decide +kernel)]; kernel_rfl) | (rw [if_neg (by decide +kernel)]; exact ⟨rfl, rfl⟩))
    (fun os started H enc _ => law_sub_lifted os started H enc)
#print axioms fieldSub_holds
end Go.Proofs.Ytmhoblefpkjdlaa
