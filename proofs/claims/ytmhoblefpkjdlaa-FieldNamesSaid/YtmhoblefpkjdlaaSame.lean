/- The law's helpers same and awake: contracts. Each says its condition. -/
import Derived.Test.YtmhoblefpkjdlaaInv
namespace Go.Proofs.Ytmhoblefpkjdlaa
open Go.RowKit

theorem lb_ne {u v : Int} (hu : El u) (hv : El v) (h : u ≠ v) : lb 32 u ≠ lb 32 v := by
  intro e
  apply h
  have h1 := vl_lb 32 u
  have h2 := vl_lb 32 v
  rw [e, h2, p256_4] at h1
  obtain ⟨a, b⟩ := hu
  obtain ⟨c, d⟩ := hv
  unfold pp at b d
  omega

set_option maxHeartbeats 1000000 in
theorem same_yes (u v : Int) (w : World) (hu : El u) (hv : El v) (h : u = v) :
    Calls Try.prog 30 #[el u, el v] w fun e w' => e = .returned (.bool true) ∧ Fr (fun _ => False) w w' := by
  obtain ⟨a0, a1, a2, a3, hA⟩ := ws_of hu
  obtain ⟨b0, b1, b2, b3, hB⟩ := ws_of hv
  have C1 : ∀ W, Calls Try.prog 32 #[.agg #[.int .u64 a0, .int .u64 a1, .int .u64 a2, .int .u64 a3]] W fun e w' => e = .returned (.agg (vs .u8 (lb 32 u))) ∧ Fr (fun _ => False) W w' := fun W => by
    rw [← hA.eq]
    exact ebytes_is u W hu
  have C2 : ∀ W, Calls Try.prog 32 #[.agg #[.int .u64 b0, .int .u64 b1, .int .u64 b2, .int .u64 b3]] W fun e w' => e = .returned (.agg (vs .u8 (lb 32 v))) ∧ Fr (fun _ => False) W w' := fun W => by
    rw [← hB.eq]
    exact ebytes_is v W hv
  have hq : ∀ W, (Op.equalIn 10000 22 (.agg (vs .u8 (lb 32 u))) (.agg (vs .u8 (lb 32 v)))).run Try.prog W = .ok true W := fun W => by
    rw [eq22 _ _ (lb_length _ _) (lb_length _ _), h, decide_eq_true rfl]
  rw [hA.eq, hB.eq]
  clear hA hB hu hv h
  go_enter Try.func30, Try.ntmps30
  go_wp2
  generalize hW : (w.alloc (.cells #[.int .u64 a0, .int .u64 a1, .int .u64 a2, .int .u64 a3] 28)).alloc (.cells #[.int .u64 b0, .int .u64 b1, .int .u64 b2, .int .u64 b3] 28) = W0
  have HW := Lib.hid (calm2 hW)
  clear hW
  refine wp_region_quiet (C := Calm W0) (by kernel_rfl) (by kernel_rfl) (Calm.start _ _ (Fr.refl _ _)) ?_
  refine BigFrame.wpQuiet_want rfl fun K hK => quiet_load 28 (.tmp 2) rfl (w.heap.size) rfl 28 _ (0, 0) _ (fun _ h => Calm.at HW.out.1 h) Try.underlying28 rfl size28 (hK _ ?_)
  refine BigFrame.wpQuiet_want rfl fun K hK => ?_
  try simp only [Act.put, List.setIfInBounds_toArray, List.set_cons_succ, List.set_cons_zero]
  go_big_quiet_op
  refine ⟨_, Calm.calls C1, hK _ ?_⟩
  refine BigFrame.wpQuiet_want rfl fun K hK => quiet_load 28 (.tmp 3) rfl (w.heap.size + 1) rfl 28 _ (0, 0) _ (fun _ h => Calm.at HW.out.2.1 h) Try.underlying28 rfl size28 (hK _ ?_)
  refine BigFrame.wpQuiet_want rfl fun K hK => ?_
  try simp only [Act.put, List.setIfInBounds_toArray, List.set_cons_succ, List.set_cons_zero]
  go_big_quiet_op
  refine ⟨_, Calm.calls C2, hK _ ?_⟩
  refine BigFrame.wpQuiet_want rfl fun K hK => ?_
  try simp only [Act.put, List.setIfInBounds_toArray, List.set_cons_succ, List.set_cons_zero]
  go_big_quiet_op
  refine ⟨_, fun _ _ => rfl, hK _ ?_⟩
  refine BigFrame.wpQuiet_want rfl fun K hK => ?_
  try simp only [Act.put, List.setIfInBounds_toArray, List.set_cons_succ, List.set_cons_zero]
  go_big_quiet_op
  refine hK _ ?_
  refine wpQuiet_nil ?_
  intro w1 hw1
  have F1 : Hid (Fr (fun _ => False) w w1) := HW.out.2.2.trans hw1
  clear hw1
  go_wp2
  go_ret
  exact ⟨rfl, F1.out⟩

set_option maxHeartbeats 1000000 in
theorem same_no (u v : Int) (w : World) (hu : El u) (hv : El v) (h : u ≠ v) :
    Calls Try.prog 30 #[el u, el v] w fun e w' => e = .returned (.bool false) ∧ Fr (fun _ => False) w w' := by
  obtain ⟨a0, a1, a2, a3, hA⟩ := ws_of hu
  obtain ⟨b0, b1, b2, b3, hB⟩ := ws_of hv
  have C1 : ∀ W, Calls Try.prog 32 #[.agg #[.int .u64 a0, .int .u64 a1, .int .u64 a2, .int .u64 a3]] W fun e w' => e = .returned (.agg (vs .u8 (lb 32 u))) ∧ Fr (fun _ => False) W w' := fun W => by
    rw [← hA.eq]
    exact ebytes_is u W hu
  have C2 : ∀ W, Calls Try.prog 32 #[.agg #[.int .u64 b0, .int .u64 b1, .int .u64 b2, .int .u64 b3]] W fun e w' => e = .returned (.agg (vs .u8 (lb 32 v))) ∧ Fr (fun _ => False) W w' := fun W => by
    rw [← hB.eq]
    exact ebytes_is v W hv
  have hq : ∀ W, (Op.equalIn 10000 22 (.agg (vs .u8 (lb 32 u))) (.agg (vs .u8 (lb 32 v)))).run Try.prog W = .ok false W := fun W => by
    rw [eq22 _ _ (lb_length _ _) (lb_length _ _), decide_eq_false (lb_ne hu hv h)]
  rw [hA.eq, hB.eq]
  clear hA hB hu hv h
  go_enter Try.func30, Try.ntmps30
  go_wp2
  generalize hW : (w.alloc (.cells #[.int .u64 a0, .int .u64 a1, .int .u64 a2, .int .u64 a3] 28)).alloc (.cells #[.int .u64 b0, .int .u64 b1, .int .u64 b2, .int .u64 b3] 28) = W0
  have HW := Lib.hid (calm2 hW)
  clear hW
  refine wp_region_quiet (C := Calm W0) (by kernel_rfl) (by kernel_rfl) (Calm.start _ _ (Fr.refl _ _)) ?_
  refine BigFrame.wpQuiet_want rfl fun K hK => quiet_load 28 (.tmp 2) rfl (w.heap.size) rfl 28 _ (0, 0) _ (fun _ h => Calm.at HW.out.1 h) Try.underlying28 rfl size28 (hK _ ?_)
  refine BigFrame.wpQuiet_want rfl fun K hK => ?_
  try simp only [Act.put, List.setIfInBounds_toArray, List.set_cons_succ, List.set_cons_zero]
  go_big_quiet_op
  refine ⟨_, Calm.calls C1, hK _ ?_⟩
  refine BigFrame.wpQuiet_want rfl fun K hK => quiet_load 28 (.tmp 3) rfl (w.heap.size + 1) rfl 28 _ (0, 0) _ (fun _ h => Calm.at HW.out.2.1 h) Try.underlying28 rfl size28 (hK _ ?_)
  refine BigFrame.wpQuiet_want rfl fun K hK => ?_
  try simp only [Act.put, List.setIfInBounds_toArray, List.set_cons_succ, List.set_cons_zero]
  go_big_quiet_op
  refine ⟨_, Calm.calls C2, hK _ ?_⟩
  refine BigFrame.wpQuiet_want rfl fun K hK => ?_
  try simp only [Act.put, List.setIfInBounds_toArray, List.set_cons_succ, List.set_cons_zero]
  go_big_quiet_op
  refine ⟨_, fun _ _ => rfl, hK _ ?_⟩
  refine BigFrame.wpQuiet_want rfl fun K hK => ?_
  try simp only [Act.put, List.setIfInBounds_toArray, List.set_cons_succ, List.set_cons_zero]
  go_big_quiet_op
  refine hK _ ?_
  refine wpQuiet_nil ?_
  intro w1 hw1
  have F1 : Hid (Fr (fun _ => False) w w1) := HW.out.2.2.trans hw1
  clear hw1
  go_wp2
  go_ret
  exact ⟨rfl, F1.out⟩

theorem el6 : el 6 = .agg #[.int .u64 6, .int .u64 0, .int .u64 0, .int .u64 0] := rfl
theorem elm : el (pp - 1) = .agg #[.int .u64 18446744073709551596, .int .u64 18446744073709551615, .int .u64 18446744073709551615, .int .u64 9223372036854775807] := rfl

set_option maxHeartbeats 2000000 in
theorem awake_is (w : World) : Calls Try.prog 31 #[] w fun e w' => e = .returned (.bool true) ∧ Fr (fun _ => False) w w' := by
  have s1 := fun W => small_is 1 W (by decide) (by decide)
  have s2 := fun W => small_is 2 W (by decide) (by decide)
  have s3 := fun W => small_is 3 W (by decide) (by decide)
  have s6 := fun W => small_is 6 W (by decide) (by decide)
  have e1 : El 1 := ⟨by decide, by decide⟩
  have e2 : El 2 := ⟨by decide, by decide⟩
  have e3 : El 3 := ⟨by decide, by decide⟩
  have e6 : El 6 := ⟨by decide, by decide⟩
  have em : El (pp - 1) := ⟨by decide, by decide⟩
  have m6 := fun W => mul_is 2 3 6 W e2 e3 (show (2 * 3 : Int) % pp = 6 by decide)
  have d1 := fun W => sub_is 1 2 (pp - 1) W e1 e2 (show (1 - 2 : Int) % pp = pp - 1 by decide)
  have q6 := fun W => same_yes 6 6 W e6 e6 rfl
  have z6 := fun W => zero_no 6 W e6 (by decide)
  have b1 : ∀ W, Calls Try.prog 32 #[el (pp - 1)] W fun e w' => e = .returned (.agg (vs .u8 (lb 32 (pp - 1)))) ∧ Fr (fun _ => False) W w' := fun W => ebytes_is (pp - 1) W em
  rw [el6] at m6 z6
  have q6' : ∀ W, Calls Try.prog 30 #[.agg #[.int .u64 6, .int .u64 0, .int .u64 0, .int .u64 0], el 6] W fun e w' => e = .returned (.bool true) ∧ Fr (fun _ => False) W w' := fun W => q6 W
  rw [elm] at d1 b1
  have i31 : ∀ W, (Instr.index 22 (.agg (vs .u8 (lb 32 (pp - 1)))) (.int .i64 31)).run Try.prog W = .ok (.int .u8 127) W := fun W => by kernel_rfl
  have i0 : ∀ W, (Instr.index 22 (.agg (vs .u8 (lb 32 (pp - 1)))) (.int .i64 0)).run Try.prog W = .ok (.int .u8 236) W := fun W => by kernel_rfl
  obtain ⟨L, hL⟩ : ∃ L, L = lb 32 (pp - 1) := ⟨_, rfl⟩
  rw [← hL] at b1 i31 i0
  clear e1 e2 e3 e6 em q6 hL
  go_enter Try.func31, Try.ntmps31
  go_wp2_with fail
  refine (s2 _).mono ?_
  rintro e w1 ⟨rfl, hf1⟩
  have F1 := Lib.hid hf1
  clear hf1
  go_wp2_with fail
  refine (s3 _).mono ?_
  rintro e w2 ⟨rfl, hf2⟩
  have F2 : Hid (Fr (fun _ => False) w w2) := F1.out.trans hf2
  clear hf2 F1
  go_wp2_with fail
  refine (m6 _).mono ?_
  rintro e w3 ⟨rfl, hf3⟩
  have F3 : Hid (Fr (fun _ => False) w w3) := F2.out.trans hf3
  clear hf3 F2
  go_wp2_with fail
  refine (s1 _).mono ?_
  rintro e w4 ⟨rfl, hf4⟩
  have X4 : Hid (B4 w4 w3.heap.size 6 0 0 0) := (hf4.block _ (by simp) (fun x => x)).trans (heap_alloc_new w3 _)
  have F4 : Hid (Fr (fun _ => False) w w4) := (F3.out.alloc _).trans hf4
  obtain ⟨q1, hq1⟩ : ∃ q, q = w3.heap.size := ⟨_, rfl⟩
  rw [← hq1] at X4 ⊢
  clear hf4 F3 hq1
  go_wp2_with fail
  refine (s2 _).mono ?_
  rintro e w5 ⟨rfl, hf5⟩
  have X5 : Hid (B4 w5 q1 6 0 0 0) := X4.out.fr hf5 (fun x => x)
  have F5 : Hid (Fr (fun _ => False) w w5) := F4.out.trans hf5
  clear hf5 X4 F4
  go_wp2_with fail
  refine (d1 _).mono ?_
  rintro e w6 ⟨rfl, hf6⟩
  have X6 : Hid (B4 w6 q1 6 0 0 0) := X5.out.fr hf6 (fun x => x)
  have F6 : Hid (Fr (fun _ => False) w w6) := F5.out.trans hf6
  clear hf6 X5 F5
  go_wp2
  generalize hW : w6.alloc (.cells #[.int .u64 18446744073709551596, .int .u64 18446744073709551615, .int .u64 18446744073709551615, .int .u64 9223372036854775807] 28) = W0
  have HX : Hid (W0.heap[q1]? = some (.cells #[.int .u64 6, .int .u64 0, .int .u64 0, .int .u64 0] 28 (0, 0))) := by
    show _ = _
    rw [← hW]
    exact (Below.heap_alloc w6 _ _ (heap_lt X6.out)).trans X6.out
  have HY : Hid (W0.heap[w6.heap.size]? = some (.cells #[.int .u64 18446744073709551596, .int .u64 18446744073709551615, .int .u64 18446744073709551615, .int .u64 9223372036854775807] 28 (0, 0))) := by
    show _ = _
    rw [← hW]
    exact heap_alloc_new w6 _
  have HF : Hid (Fr (fun _ => False) w W0) := by
    show Fr _ _ _
    rw [← hW]
    exact F6.out.alloc _
  obtain ⟨q2, hq2⟩ : ∃ q, q = w6.heap.size := ⟨_, rfl⟩
  rw [← hq2] at HY ⊢
  clear hW X6 F6 hq2
  refine wp_region_quiet (C := Calm W0) (by kernel_rfl) (by kernel_rfl) (Calm.start _ _ (Fr.refl _ _)) ?_
  refine BigFrame.wpQuiet_want rfl fun K hK => quiet_load 28 (.tmp 1) rfl (q1) rfl 28 _ (0, 0) _ (fun _ h => Calm.at HX.out h) Try.underlying28 rfl size28 (hK _ ?_)
  refine BigFrame.wpQuiet_want rfl fun K hK => ?_
  try simp only [Act.put, List.setIfInBounds_toArray, List.set_cons_succ, List.set_cons_zero]
  go_big_quiet_op
  refine ⟨_, Calm.calls s6, hK _ ?_⟩
  refine BigFrame.wpQuiet_want rfl fun K hK => ?_
  try simp only [Act.put, List.setIfInBounds_toArray, List.set_cons_succ, List.set_cons_zero]
  go_big_quiet_op
  refine ⟨_, Calm.calls q6', hK _ ?_⟩
  refine BigFrame.wpQuiet_want rfl fun K hK => ?_
  try simp only [Act.put, List.setIfInBounds_toArray, List.set_cons_succ, List.set_cons_zero]
  go_big_quiet_op
  refine hK _ ?_
  refine BigFrame.wpQuiet_want rfl fun K hK => quiet_load 28 (.tmp 1) rfl (q1) rfl 28 _ (0, 0) _ (fun _ h => Calm.at HX.out h) Try.underlying28 rfl size28 (hK _ ?_)
  refine BigFrame.wpQuiet_want rfl fun K hK => ?_
  try simp only [Act.put, List.setIfInBounds_toArray, List.set_cons_succ, List.set_cons_zero]
  go_big_quiet_op
  refine ⟨_, Calm.calls z6, hK _ ?_⟩
  refine BigFrame.wpQuiet_want rfl fun K hK => ?_
  try simp only [Act.put, List.setIfInBounds_toArray, List.set_cons_succ, List.set_cons_zero]
  go_big_quiet_op
  refine ⟨_, fun _ _ => rfl, hK _ ?_⟩
  refine BigFrame.wpQuiet_want rfl fun K hK => ?_
  try simp only [Act.put, List.setIfInBounds_toArray, List.set_cons_succ, List.set_cons_zero]
  go_big_quiet_op
  refine ⟨_, fun _ _ => rfl, hK _ ?_⟩
  refine BigFrame.wpQuiet_want rfl fun K hK => ?_
  try simp only [Act.put, List.setIfInBounds_toArray, List.set_cons_succ, List.set_cons_zero]
  go_big_quiet_op
  refine hK _ ?_
  refine BigFrame.wpQuiet_want rfl fun K hK => quiet_load 28 (.tmp 2) rfl (q2) rfl 28 _ (0, 0) _ (fun _ h => Calm.at HY.out h) Try.underlying28 rfl size28 (hK _ ?_)
  refine BigFrame.wpQuiet_want rfl fun K hK => ?_
  try simp only [Act.put, List.setIfInBounds_toArray, List.set_cons_succ, List.set_cons_zero]
  go_big_quiet_op
  refine ⟨_, Calm.calls b1, hK _ ?_⟩
  refine BigFrame.wpQuiet_want rfl fun K hK => ?_
  try simp only [Act.put, List.setIfInBounds_toArray, List.set_cons_succ, List.set_cons_zero]
  go_big_quiet_op
  refine ⟨_, fun _ _ => rfl, hK _ ?_⟩
  refine BigFrame.wpQuiet_want rfl fun K hK => ?_
  try simp only [Act.put, List.setIfInBounds_toArray, List.set_cons_succ, List.set_cons_zero]
  go_big_quiet_op
  refine ⟨_, fun _ _ => rfl, hK _ ?_⟩
  refine BigFrame.wpQuiet_want rfl fun K hK => ?_
  try simp only [Act.put, List.setIfInBounds_toArray, List.set_cons_succ, List.set_cons_zero]
  go_big_quiet_op
  refine ⟨_, fun _ _ => rfl, hK _ ?_⟩
  refine BigFrame.wpQuiet_want rfl fun K hK => ?_
  try simp only [Act.put, List.setIfInBounds_toArray, List.set_cons_succ, List.set_cons_zero]
  go_big_quiet_op
  refine hK _ ?_
  refine BigFrame.wpQuiet_want rfl fun K hK => quiet_load 28 (.tmp 2) rfl (q2) rfl 28 _ (0, 0) _ (fun _ h => Calm.at HY.out h) Try.underlying28 rfl size28 (hK _ ?_)
  refine BigFrame.wpQuiet_want rfl fun K hK => ?_
  try simp only [Act.put, List.setIfInBounds_toArray, List.set_cons_succ, List.set_cons_zero]
  go_big_quiet_op
  refine ⟨_, Calm.calls b1, hK _ ?_⟩
  refine BigFrame.wpQuiet_want rfl fun K hK => ?_
  try simp only [Act.put, List.setIfInBounds_toArray, List.set_cons_succ, List.set_cons_zero]
  go_big_quiet_op
  refine ⟨_, fun _ _ => rfl, hK _ ?_⟩
  refine BigFrame.wpQuiet_want rfl fun K hK => ?_
  try simp only [Act.put, List.setIfInBounds_toArray, List.set_cons_succ, List.set_cons_zero]
  go_big_quiet_op
  refine ⟨_, fun _ _ => rfl, hK _ ?_⟩
  refine BigFrame.wpQuiet_want rfl fun K hK => ?_
  try simp only [Act.put, List.setIfInBounds_toArray, List.set_cons_succ, List.set_cons_zero]
  go_big_quiet_op
  refine ⟨_, fun _ _ => rfl, hK _ ?_⟩
  refine BigFrame.wpQuiet_want rfl fun K hK => ?_
  try simp only [Act.put, List.setIfInBounds_toArray, List.set_cons_succ, List.set_cons_zero]
  go_big_quiet_op
  refine hK _ ?_
  refine wpQuiet_nil ?_
  intro w7 hw7
  have F7 : Hid (Fr (fun _ => False) w w7) := HF.out.trans hw7
  clear hw7
  go_wp2
  go_ret
  exact ⟨rfl, F7.out⟩
end Go.Proofs.Ytmhoblefpkjdlaa
