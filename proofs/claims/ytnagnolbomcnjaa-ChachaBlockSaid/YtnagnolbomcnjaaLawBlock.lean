/- ChachaBlock answers true for all keys, counters and nonces, and its argument reads behind the call as it did: the given statement ChachaBlockSaid. No condition. -/
import Derived.Test.YtnagnolbomcnjaaOp
import Derived.Test.YtnagnolbomcnjaaRb
namespace Go.Proofs.Ytnagnolbomcnjaa
set_option linter.unusedSimpArgs false
set_option linter.unusedVariables false
set_option linter.unusedVariables false
open Go.ChangeShapes Go.WideShapes Go.ChangeAt Go.RowKit

theorem Try.info5K : (Try.prog.info? 5).map (fun i => (i.zero, i.size, i.bytes)) = some (some (.int .u8 0), 1, 1) := by kernel_rfl
theorem eq64 (l m : List Int) (hl : l.length = 64) (hm : m.length = 64) (w : World) : (Op.equalIn 10000 32 (.agg (vs .u8 l)) (.agg (vs .u8 m))).run Try.prog w = .ok (decide (l = m)) w := by
  obtain ⟨i, hi, _⟩ := info_parts Try.info5K
  exact run_equalIn_ints (P := Try.prog) (k := .u8) (k' := .u8) (n := 64) (e := 5) 9998 Try.underlying32 hi Try.underlying5 (by kernel_rfl) (by kernel_rfl) l m hl hm w
set_option maxRecDepth 100000 in
set_option maxHeartbeats 4000000 in
theorem law_block_any (vk : List Int) (vc : Int) (vn : List Int) (w : World) (hk : vk.length = 32) (bk : Bys vk) (hc : Wd vc) (hn : vn.length = 12) (bn : Bys vn) :
    Calls Try.prog 4 #[.agg (bg vk vc vn)] w fun e w' => e = .returned (.bool true) ∧ Fr (fun _ => False) w w' := by
  obtain ⟨R, hR⟩ : ∃ R, R = bk64 vk vc vn := ⟨_, rfl⟩
  have C0 : ∀ W, Calls Try.prog 16 #[.agg (vs .u8 vk), .int .u32 vc, .agg (vs .u8 vn)] W fun e w' => e = .returned (.agg (vs .u8 R)) ∧ Fr (fun _ => False) W w' := fun W => by rw [hR]; exact blockK_is vk vc vn W hk bk hc hn bn
  have C1 : ∀ W, Calls Try.prog 17 #[.agg (vs .u8 vk), .int .u32 vc, .agg (vs .u8 vn)] W fun e w' => e = .returned (.agg (vs .u8 R)) ∧ Fr (fun _ => False) W w' := fun W => by rw [hR]; exact rblock_is vk vc vn W hk bk hc hn bn
  have lR : R.length = 64 := by rw [hR]; exact bk64_length hk bk hc hn bn
  have hE : ∀ W, (Op.equalIn 10000 32 (.agg (vs .u8 R)) (.agg (vs .u8 R))).run Try.prog W = .ok true W := fun W => (eq64 R R lR lR W).trans (by rw [decide_eq_true rfl])
  have CW := works_is
  have k_vk := Lib.hid hk
  have k_vn := Lib.hid hn
  clear hR lR hk bk hc hn bn
  go_enter Try.func4, Try.ntmps4
  go_upto_region 1 with (fail)
  generalize hW : w.alloc (.cells (bg vk vc vn) 31) = W0
  have HW := Lib.hid (calm1a hW)
  have X0 := Lib.hid HW.out.1
  have F0 : Hid (Fr (fun _ => False) w W0) := HW.out.2
  clear hW HW
  refine wp_region_quiet (C := Calm W0) (by kernel_rfl) (by kernel_rfl) (Calm.start _ _ (Fr.refl _ _)) ?_
  refine BigFrame.wpQuiet_want rfl fun K hK => ?_
  try simp only [Act.put, List.setIfInBounds_toArray, List.set_cons_succ, List.set_cons_zero]
  go_big_quiet_op
  first
    | refine ⟨_, fun _ _ => rfl, hK _ ?_⟩
    | refine hK _ ?_
  refine BigFrame.wpQuiet_want rfl fun K hK => quiet_mid 28 _ (.tmp 3) rfl (w.heap.size) 0 rfl .u8 vk Try.underlying28 rfl (by rw [k_vk.out]; kernel_rfl) (fun _ h => bg_key k_vk.out (Calm.at X0.out h)) (hK _ ?_)
  refine BigFrame.wpQuiet_want rfl fun K hK => ?_
  try simp only [Act.put, List.setIfInBounds_toArray, List.set_cons_succ, List.set_cons_zero]
  go_big_quiet_op
  first
    | refine ⟨_, fun _ _ => rfl, hK _ ?_⟩
    | refine hK _ ?_
  refine BigFrame.wpQuiet_want rfl fun K hK => quiet_one 22 .u32 (.tmp 5) rfl (w.heap.size) 32 rfl vc Try.underlying22 (fun _ h => bg_cell k_vk.out (Calm.at X0.out h)) (hK _ ?_)
  refine BigFrame.wpQuiet_want rfl fun K hK => ?_
  try simp only [Act.put, List.setIfInBounds_toArray, List.set_cons_succ, List.set_cons_zero]
  go_big_quiet_op
  first
    | refine ⟨_, fun _ _ => rfl, hK _ ?_⟩
    | refine hK _ ?_
  refine BigFrame.wpQuiet_want rfl fun K hK => quiet_mid 29 _ (.tmp 7) rfl (w.heap.size) 33 rfl .u8 vn Try.underlying29 rfl (by rw [k_vn.out]; kernel_rfl) (fun _ h => bg_nonce k_vk.out (Calm.at X0.out h)) (hK _ ?_)
  refine BigFrame.wpQuiet_want rfl fun K hK => ?_
  try simp only [Act.put, List.setIfInBounds_toArray, List.set_cons_succ, List.set_cons_zero]
  go_big_quiet_op
  refine ⟨_, Calm.calls C0, hK _ ?_⟩
  refine BigFrame.wpQuiet_want rfl fun K hK => ?_
  try simp only [Act.put, List.setIfInBounds_toArray, List.set_cons_succ, List.set_cons_zero]
  go_big_quiet_op
  first
    | refine ⟨_, fun _ _ => rfl, hK _ ?_⟩
    | refine hK _ ?_
  refine BigFrame.wpQuiet_want rfl fun K hK => quiet_mid 28 _ (.tmp 10) rfl (w.heap.size) 0 rfl .u8 vk Try.underlying28 rfl (by rw [k_vk.out]; kernel_rfl) (fun _ h => bg_key k_vk.out (Calm.at X0.out h)) (hK _ ?_)
  refine BigFrame.wpQuiet_want rfl fun K hK => ?_
  try simp only [Act.put, List.setIfInBounds_toArray, List.set_cons_succ, List.set_cons_zero]
  go_big_quiet_op
  first
    | refine ⟨_, fun _ _ => rfl, hK _ ?_⟩
    | refine hK _ ?_
  refine BigFrame.wpQuiet_want rfl fun K hK => quiet_one 22 .u32 (.tmp 12) rfl (w.heap.size) 32 rfl vc Try.underlying22 (fun _ h => bg_cell k_vk.out (Calm.at X0.out h)) (hK _ ?_)
  refine BigFrame.wpQuiet_want rfl fun K hK => ?_
  try simp only [Act.put, List.setIfInBounds_toArray, List.set_cons_succ, List.set_cons_zero]
  go_big_quiet_op
  first
    | refine ⟨_, fun _ _ => rfl, hK _ ?_⟩
    | refine hK _ ?_
  refine BigFrame.wpQuiet_want rfl fun K hK => quiet_mid 29 _ (.tmp 14) rfl (w.heap.size) 33 rfl .u8 vn Try.underlying29 rfl (by rw [k_vn.out]; kernel_rfl) (fun _ h => bg_nonce k_vk.out (Calm.at X0.out h)) (hK _ ?_)
  refine BigFrame.wpQuiet_want rfl fun K hK => ?_
  try simp only [Act.put, List.setIfInBounds_toArray, List.set_cons_succ, List.set_cons_zero]
  go_big_quiet_op
  refine ⟨_, Calm.calls C1, hK _ ?_⟩
  refine BigFrame.wpQuiet_want rfl fun K hK => ?_
  try simp only [Act.put, List.setIfInBounds_toArray, List.set_cons_succ, List.set_cons_zero]
  go_big_quiet_op
  first
    | refine ⟨_, fun _ _ => rfl, hK _ ?_⟩
    | refine hK _ ?_
  refine BigFrame.wpQuiet_want rfl fun K hK => ?_
  try simp only [Act.put, List.setIfInBounds_toArray, List.set_cons_succ, List.set_cons_zero]
  go_big_quiet_op
  refine hK _ ?_
  refine BigFrame.wpQuiet_want rfl fun K hK => ?_
  try simp only [Act.put, List.setIfInBounds_toArray, List.set_cons_succ, List.set_cons_zero]
  go_big_quiet_op
  refine ⟨_, Calm.calls CW, hK _ ?_⟩
  refine BigFrame.wpQuiet_want rfl fun K hK => ?_
  try simp only [Act.put, List.setIfInBounds_toArray, List.set_cons_succ, List.set_cons_zero]
  go_big_quiet_op
  first
    | refine ⟨_, fun _ _ => rfl, hK _ ?_⟩
    | refine hK _ ?_
  refine BigFrame.wpQuiet_want rfl fun K hK => ?_
  try simp only [Act.put, List.setIfInBounds_toArray, List.set_cons_succ, List.set_cons_zero]
  go_big_quiet_op
  refine hK _ ?_
  refine wpQuiet_nil ?_
  intro w9 hw9
  have F9 : Hid (Fr (fun _ => False) w w9) := F0.out.trans hw9
  clear hw9
  try simp only [Act.put, List.setIfInBounds_toArray, List.set_cons_succ, List.set_cons_zero]
  go_wp2
  go_ret
  exact ⟨rfl, F9.out⟩

set_option maxRecDepth 100000 in
theorem law_block_lifted (os : Os) (started : os.Started) (H : Type) (enc : TypeId × Value → H) :
    ReturnsInHanded {} Try.checked os 4 .any (Rows.chachaBlockSpec.pre6 enc Try.prog Try.f4 Rows.chachaBlockRow.domain false) (Rows.chachaBlockSpec.post enc Try.prog Try.f4 false true false false) := by
  refine returnsInHanded_of_change (C := Try.checked) own started (by kernel_rfl) Try.func4
    (ChangeSpec.witness6 (enc := enc) (C := Try.checked) false ⟨#[], #[.agg (bg (List.replicate 32 0) 0 (List.replicate 12 0))], []⟩ 8 (by kernel_rfl) (by kernel_rfl) (by kernel_rfl) (by kernel_rfl)) ?_
  intro W base args ds gs before hval0 hW hcnd _
  have hval : ∀ (j : Nat) t v, Try.f4.params[j]? = some t → args[j]? = some v → Value.okWide Try.prog W .any base t v := hval0
  have hW' := hW
  obtain ⟨p, q, hA0, hV, rfl, hfz, hnd⟩ := hW
  have hA : DataW.TrodAll enc Try.prog W 0 (fun _ => true) true Try.f4.params.toList args.toList ds p := hA0
  rw [Try.params4] at hA hval
  obtain ⟨v0, vs0, d0, ds0, p0, q0, hargs, rfl, rfl, h0, r0⟩ := trodAll_cons hA
  obtain ⟨rfl, rfl, rfl⟩ := trodAll_nil r0
  obtain rfl : args = #[v0] := by cases args; simp_all
  obtain ⟨rfl, rfl⟩ := trodVars_none hV
  obtain ⟨k0, c0, n0, rfl, lk0, bk0, wc0, ln0, bn0⟩ := open_bg (hval 0 31 v0 rfl rfl) h0
  clear hA0 hval0
  refine (law_block_any k0 c0 n0 W lk0 bk0 wc0 ln0 bn0).mono fun e W' ⟨he, hg⟩ => ?_
  subst he
  exact ⟨_, rfl, post_true rfl hW' (by kernel_rfl) rfl rfl hg⟩

theorem chachaBlock_holds : Rows.ChachaBlockSaid :=
  OpenClaim.holds_of_wide 4 Try.f4 rfl rfl rfl rfl rfl rfl rfl ⟨rfl, rfl, rfl, rfl, rfl⟩ rfl rfl rfl rfl rfl (by kernel_rfl) Try.func4 (by kernel_rfl)
    (of_decide_eq_true (by kernel_rfl)) (by unfold Func.isWrapper; first | (rw [if_pos (by decide +kernel)]; kernel_rfl) | (rw [if_neg (by decide +kernel)]; exact ⟨rfl, rfl⟩))
    (fun os started H enc _ => law_block_lifted os started H enc)
#print axioms chachaBlock_holds
end Go.Proofs.Ytnagnolbomcnjaa
