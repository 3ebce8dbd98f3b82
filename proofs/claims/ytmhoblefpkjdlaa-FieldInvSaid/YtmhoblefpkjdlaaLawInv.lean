/- FieldInv answers true for every number of 32 bytes, and its argument reads behind the call as it did: the given statement FieldInvSaid. No condition. -/
import Derived.Test.YtmhoblefpkjdlaaLift
import Derived.Test.YtmhoblefpkjdlaaRefI
namespace Go.Proofs.Ytmhoblefpkjdlaa
open Go.ChangeShapes Go.WideShapes Go.ChangeAt Go.RowKit

theorem calm1 {w : World} {A : Obj} {W0 : World} (h : w.alloc A = W0) : W0.heap[w.heap.size]? = some A ∧ Fr (fun _ => False) w W0 := by
  subst h
  exact ⟨heap_alloc_new w A, (Fr.refl _ _).alloc _⟩

set_option maxHeartbeats 2000000 in
theorem law_inv_any (l : List Int) (w : World) (hl : l.length = 32) (bl : Bys l) :
    Calls Try.prog 7 #[.agg (vs .u8 l)] w fun e w' => e = .returned (.bool true) ∧ Fr (fun _ => False) w w' := by
  have ol := frm_ok l hl bl
  have C1 := fun W => from_el l W hl bl
  have C2 := fun W => inv_is (fe l) W (El.mod _)
  have C3 : ∀ W, Calls Try.prog 15 #[.agg (vs .u8 l)] W fun e w' => e = .returned (.agg (vs .i64 (frm l))) ∧ Fr (fun _ => False) W w' := fun W => rfrom_is l W hl bl
  have C4 := fun W => rinv_is (frm l) (fe l) W ol
  have C5 := fun W => is_yes _ _ W (pwr_el _ _) (rv_ok ol 255 (by decide))
  unfold nm at C4 C5
  have H1 : Hid ((Try.prog.info? 22).map (·.size) = some (vs .u8 l).size) := by show _ = _; rw [size22, vs_size, hl]
  clear hl bl ol
  go_enter Try.func7, Try.ntmps7
  go_wp2
  generalize hW : w.alloc (.cells (vs .u8 l) 22) = W0
  have HW := Lib.hid (calm1 hW)
  clear hW
  refine wp_region_quiet (C := Calm W0) (by kernel_rfl) (by kernel_rfl) (Calm.start _ _ (Fr.refl _ _)) ?_
  refine BigFrame.wpQuiet_want rfl fun K hK => quiet_load 22 (.tmp 1) rfl (w.heap.size) rfl 22 _ (0, 0) _ (fun _ h => Calm.at HW.out.1 h) Try.underlying22 rfl H1.out (hK _ ?_)
  refine BigFrame.wpQuiet_want rfl fun K hK => ?_
  try simp only [Act.put, List.setIfInBounds_toArray, List.set_cons_succ, List.set_cons_zero]
  go_big_quiet_op
  refine ⟨_, Calm.calls C1, hK _ ?_⟩
  refine BigFrame.wpQuiet_want rfl fun K hK => ?_
  try simp only [Act.put, List.setIfInBounds_toArray, List.set_cons_succ, List.set_cons_zero]
  go_big_quiet_op
  refine ⟨_, Calm.calls C2, hK _ ?_⟩
  refine BigFrame.wpQuiet_want rfl fun K hK => quiet_load 22 (.tmp 1) rfl (w.heap.size) rfl 22 _ (0, 0) _ (fun _ h => Calm.at HW.out.1 h) Try.underlying22 rfl H1.out (hK _ ?_)
  refine BigFrame.wpQuiet_want rfl fun K hK => ?_
  try simp only [Act.put, List.setIfInBounds_toArray, List.set_cons_succ, List.set_cons_zero]
  go_big_quiet_op
  refine ⟨_, Calm.calls C3, hK _ ?_⟩
  refine BigFrame.wpQuiet_want rfl fun K hK => ?_
  try simp only [Act.put, List.setIfInBounds_toArray, List.set_cons_succ, List.set_cons_zero]
  go_big_quiet_op
  refine ⟨_, Calm.calls C4, hK _ ?_⟩
  refine BigFrame.wpQuiet_want rfl fun K hK => ?_
  try simp only [Act.put, List.setIfInBounds_toArray, List.set_cons_succ, List.set_cons_zero]
  go_big_quiet_op
  refine ⟨_, Calm.calls C5, hK _ ?_⟩
  refine BigFrame.wpQuiet_want rfl fun K hK => ?_
  go_big_quiet_op
  refine hK _ ?_
  refine wpQuiet_nil ?_
  intro w1 hw1
  have F1 : Hid (Fr (fun _ => False) w w1) := HW.out.2.trans hw1
  clear hw1
  go_wp2
  go_ret
  exact ⟨rfl, F1.out⟩

set_option maxRecDepth 100000 in
theorem law_inv_lifted (os : Os) (started : os.Started) (H : Type) (enc : TypeId × Value → H) :
    ReturnsInHanded {} Try.checked os 7 .any (Rows.fieldInvSpec.pre6 enc Try.prog Try.f7 Rows.fieldInvRow.domain false) (Rows.fieldInvSpec.post enc Try.prog Try.f7 false true false false) := by
  refine returnsInHanded_of_change (C := Try.checked) own started (by kernel_rfl) Try.func7
    (ChangeSpec.witness6 (enc := enc) (C := Try.checked) false ⟨#[], #[.agg (vs .u8 (List.replicate 32 0))], []⟩ 8 (by kernel_rfl) (by kernel_rfl) (by kernel_rfl) (by kernel_rfl)) ?_
  intro W base args ds gs before hval0 hW hcnd _
  have hval : ∀ (j : Nat) t v, Try.f7.params[j]? = some t → args[j]? = some v → Value.okWide Try.prog W .any base t v := hval0
  have hW' := hW
  obtain ⟨p, q, hA0, hV, rfl, hfz, hnd⟩ := hW
  have hA : DataW.TrodAll enc Try.prog W 0 (fun _ => true) true Try.f7.params.toList args.toList ds p := hA0
  rw [Try.params7] at hA hval
  obtain ⟨v0, vs0, d0, ds0, p0, q0, hargs, rfl, rfl, h0, r0⟩ := trodAll_cons hA
  obtain ⟨rfl, rfl, rfl⟩ := trodAll_nil r0
  obtain rfl : args = #[v0] := by cases args; simp_all
  obtain ⟨rfl, rfl⟩ := trodVars_none hV
  obtain ⟨l0, rfl, e0, b0⟩ := open_bytes (hval 0 22 v0 rfl rfl) h0
  clear hA0 hval0
  refine (law_inv_any l0 W e0 b0).mono fun e W' ⟨he, hg⟩ => ?_
  subst he
  exact ⟨_, rfl, post_true rfl hW' (by kernel_rfl) rfl rfl hg⟩

theorem fieldInv_holds : Rows.FieldInvSaid :=
  OpenClaim.holds_of_wide 7 Try.f7 rfl rfl rfl rfl rfl rfl rfl ⟨rfl, rfl, rfl, rfl, rfl⟩ rfl rfl rfl rfl rfl (by kernel_rfl) Try.func7 (by kernel_rfl)
    (of_decide_eq_true (by kernel_rfl)) (by unfold Func.isWrapper; first | (rw [if_pos (by decide +kernel)]; kernel_rfl) | (rw [if_neg (by decide +kernel)]; exact ⟨rfl, rfl⟩))
    (fun os started H enc _ => law_inv_lifted os started H enc)
#print axioms fieldInv_holds
end Go.Proofs.Ytmhoblefpkjdlaa
