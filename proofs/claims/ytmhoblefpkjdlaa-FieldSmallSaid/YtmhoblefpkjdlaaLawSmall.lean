/- FieldSmall answers true for all two numbers below 2^16, and its arguments read behind the call as they did: the given statement FieldSmallSaid. No condition. -/
import Derived.Test.YtmhoblefpkjdlaaLift
import Derived.Test.YtmhoblefpkjdlaaWordsW
import Derived.Deep.Cut
namespace Go.Proofs.Ytmhoblefpkjdlaa
open Go.ChangeShapes Go.WideShapes Go.ChangeAt Go.RowKit

set_option maxRecDepth 100000 in
set_option maxHeartbeats 4000000 in
theorem law_small_walk (m n : Int) (w : World) (hm : 0 ≤ m) (hm' : m ≤ 65535) (hn : 0 ≤ n) (hn' : n ≤ 65535) :
    Calls Try.prog 12 #[.int .u16 m, .int .u16 n] w fun e w' => e = .returned (.bool true) ∧ Fr (fun _ => False) w w' := by
  have Wm := ws_small m hm (by omega)
  have Wn := ws_small n hn (by omega)
  have c1 : ∀ W, Calls Try.prog 19 #[.int .u32 m] W fun e w' => e = .returned (.agg #[.int .u64 m, .int .u64 0, .int .u64 0, .int .u64 0]) ∧ Fr (fun _ => False) W w' := fun W => by
    rw [← Wm.eq]
    exact small_is m W hm (by omega)
  have c2 : ∀ W, Calls Try.prog 19 #[.int .u32 n] W fun e w' => e = .returned (.agg #[.int .u64 n, .int .u64 0, .int .u64 0, .int .u64 0]) ∧ Fr (fun _ => False) W w' := fun W => by
    rw [← Wn.eq]
    exact small_is n W hn (by omega)
  have small : ∀ x, 0 ≤ x → x ≤ 4294967295 → x % pp = x := fun x h0 h1 => Int.emod_eq_of_lt h0 (by unfold pp; omega)
  have elx : ∀ x, 0 ≤ x → x ≤ 4294967295 → El x := fun x h0 h1 => ⟨h0, by unfold pp; omega⟩
  have a1 := fun W => add_w Wm Wn (small (m + n) (by omega) (by omega)) W
  have a2 := fun W => small_is (m + n) W (by omega) (by omega)
  have a3 := fun W => same_yes (m + n) (m + n) W (elx _ (by omega) (by omega)) (elx _ (by omega) (by omega)) rfl
  obtain ⟨p, hp⟩ : ∃ p, m * n = p := ⟨_, rfl⟩
  have p0 : 0 ≤ p := by rw [← hp]; exact Int.mul_nonneg hm hn
  have p9 : p ≤ 4294836225 := by rw [← hp]; exact Int.mul_le_mul hm' hn' hn (by decide)
  have b1 := fun W => mul_w Wm Wn (r := p) (by rw [hp]; exact small p p0 (by omega)) W
  have b2 := fun W => small_is p W p0 (by omega)
  have b3 := fun W => same_yes p p W (elx _ p0 (by omega)) (elx _ p0 (by omega)) rfl
  have k := awake_is
  have d : (n ≤ m → (∀ W, Calls Try.prog 23 #[.agg #[.int .u64 m, .int .u64 0, .int .u64 0, .int .u64 0], .agg #[.int .u64 n, .int .u64 0, .int .u64 0, .int .u64 0]] W fun e w' => e = .returned (el (m - n)) ∧ Fr (fun _ => False) W w') ∧ (∀ W, Calls Try.prog 19 #[.int .u32 (m - n)] W fun e w' => e = .returned (el (m - n)) ∧ Fr (fun _ => False) W w') ∧ ∀ W, Calls Try.prog 30 #[el (m - n), el (m - n)] W fun e w' => e = .returned (.bool true) ∧ Fr (fun _ => False) W w') :=
    fun h => ⟨fun W => sub_w Wm Wn (small (m - n) (by omega) (by omega)) W, fun W => small_is (m - n) W (by omega) (by omega), fun W => same_yes (m - n) (m - n) W (elx _ (by omega) (by omega)) (elx _ (by omega) (by omega)) rfl⟩
  have d' : (m ≤ n → (∀ W, Calls Try.prog 23 #[.agg #[.int .u64 n, .int .u64 0, .int .u64 0, .int .u64 0], .agg #[.int .u64 m, .int .u64 0, .int .u64 0, .int .u64 0]] W fun e w' => e = .returned (el (n - m)) ∧ Fr (fun _ => False) W w') ∧ (∀ W, Calls Try.prog 19 #[.int .u32 (n - m)] W fun e w' => e = .returned (el (n - m)) ∧ Fr (fun _ => False) W w') ∧ ∀ W, Calls Try.prog 30 #[el (n - m), el (n - m)] W fun e w' => e = .returned (.bool true) ∧ Fr (fun _ => False) W w') :=
    fun h => ⟨fun W => sub_w Wn Wm (small (n - m) (by omega) (by omega)) W, fun W => small_is (n - m) W (by omega) (by omega), fun W => same_yes (n - m) (n - m) W (elx _ (by omega) (by omega)) (elx _ (by omega) (by omega)) rfl⟩
  have D := Lib.hid d
  have D' := Lib.hid d'
  clear small elx Wm Wn d d'
  go_enter Try.func12, Try.ntmps12
  go_upto_region 1 with (fail)
  refine wp_region_head (C := Calm w) 6 (Fr.refl _ _) ?_
  simp only [List.take_succ_cons, List.take_zero, List.drop_succ_cons, List.drop_zero]
  refine BigFrame.wpQuiet_want rfl fun K hK => ?_
  try simp only [Act.put, List.setIfInBounds_toArray, List.set_cons_succ, List.set_cons_zero]
  go_big_quiet_op
  refine hK _ ?_
  refine BigFrame.wpQuiet_want rfl fun K hK => ?_
  try simp only [Act.put, List.setIfInBounds_toArray, List.set_cons_succ, List.set_cons_zero]
  go_big_quiet_op
  refine ⟨_, fun _ _ => rfl, hK _ ?_⟩
  refine BigFrame.wpQuiet_want rfl fun K hK => ?_
  try simp only [Act.put, List.setIfInBounds_toArray, List.set_cons_succ, List.set_cons_zero]
  go_big_quiet_op
  refine ⟨_, Calm.calls c1, hK _ ?_⟩
  refine BigFrame.wpQuiet_want rfl fun K hK => ?_
  try simp only [Act.put, List.setIfInBounds_toArray, List.set_cons_succ, List.set_cons_zero]
  go_big_quiet_op
  refine hK _ ?_
  refine BigFrame.wpQuiet_want rfl fun K hK => ?_
  try simp only [Act.put, List.setIfInBounds_toArray, List.set_cons_succ, List.set_cons_zero]
  go_big_quiet_op
  refine ⟨_, fun _ _ => rfl, hK _ ?_⟩
  refine BigFrame.wpQuiet_want rfl fun K hK => ?_
  try simp only [Act.put, List.setIfInBounds_toArray, List.set_cons_succ, List.set_cons_zero]
  go_big_quiet_op
  refine ⟨_, Calm.calls c2, hK _ ?_⟩
  refine wpQuiet_nil ?_
  intro w1 hw1
  try simp only [Act.put, List.setIfInBounds_toArray, List.set_cons_succ, List.set_cons_zero]
  go_upto_region 2 with (fail)
  generalize hW : (w1.alloc (.cells #[.int .u64 m, .int .u64 0, .int .u64 0, .int .u64 0] 28)).alloc (.cells #[.int .u64 n, .int .u64 0, .int .u64 0, .int .u64 0] 28) = W0
  have HW := Lib.hid (calm2 hW)
  have F0 : Hid (Fr (fun _ => False) w W0) := Fr.trans hw1 HW.out.2.2
  obtain ⟨q1, hq1⟩ : ∃ q, q = w1.heap.size := ⟨_, rfl⟩
  obtain ⟨q2, hq2⟩ : ∃ q, q = w1.heap.size + 1 := ⟨_, rfl⟩
  have HX := Lib.hid HW.out.1
  have HY := Lib.hid HW.out.2.1
  rw [← hq1] at HX
  rw [← hq2] at HY
  rw [← hq1]
  have hq2' : q1 + 1 = q2 := by omega
  rw [hq2']
  clear hW HW hw1 hq1 hq2 hq2'
  refine wp_region_head (C := Calm W0) 24 (Fr.refl _ _) ?_
  simp only [List.take_succ_cons, List.take_zero, List.drop_succ_cons, List.drop_zero]
  refine BigFrame.wpQuiet_want rfl fun K hK => quiet_load 28 (.tmp 5) rfl (q1) rfl 28 _ (0, 0) _ (fun _ h => Calm.at HX.out h) Try.underlying28 rfl size28 (hK _ ?_)
  refine BigFrame.wpQuiet_want rfl fun K hK => quiet_load 28 (.tmp 6) rfl (q2) rfl 28 _ (0, 0) _ (fun _ h => Calm.at HY.out h) Try.underlying28 rfl size28 (hK _ ?_)
  refine BigFrame.wpQuiet_want rfl fun K hK => ?_
  try simp only [Act.put, List.setIfInBounds_toArray, List.set_cons_succ, List.set_cons_zero]
  go_big_quiet_op
  refine ⟨_, Calm.calls a1, hK _ ?_⟩
  refine BigFrame.wpQuiet_want rfl fun K hK => ?_
  try simp only [Act.put, List.setIfInBounds_toArray, List.set_cons_succ, List.set_cons_zero]
  go_big_quiet_op
  refine hK _ ?_
  refine BigFrame.wpQuiet_want rfl fun K hK => ?_
  try simp only [Act.put, List.setIfInBounds_toArray, List.set_cons_succ, List.set_cons_zero]
  go_big_quiet_op
  refine ⟨_, fun _ _ => rfl, hK _ ?_⟩
  refine BigFrame.wpQuiet_want rfl fun K hK => ?_
  try simp only [Act.put, List.setIfInBounds_toArray, List.set_cons_succ, List.set_cons_zero]
  go_big_quiet_op
  refine hK _ ?_
  refine BigFrame.wpQuiet_want rfl fun K hK => ?_
  try simp only [Act.put, List.setIfInBounds_toArray, List.set_cons_succ, List.set_cons_zero]
  go_big_quiet_op
  refine ⟨_, fun _ _ => rfl, hK _ ?_⟩
  refine BigFrame.wpQuiet_want rfl fun K hK => ?_
  try simp only [Act.put, List.setIfInBounds_toArray, List.set_cons_succ, List.set_cons_zero]
  go_big_quiet_op
  refine ⟨_, fun _ _ => rfl, hK _ ?_⟩
  refine BigFrame.wpQuiet_want rfl fun K hK => ?_
  try simp only [Act.put, List.setIfInBounds_toArray, List.set_cons_succ, List.set_cons_zero]
  go_big_quiet_op
  refine ⟨_, Calm.calls a2, hK _ ?_⟩
  refine BigFrame.wpQuiet_want rfl fun K hK => ?_
  try simp only [Act.put, List.setIfInBounds_toArray, List.set_cons_succ, List.set_cons_zero]
  go_big_quiet_op
  refine ⟨_, Calm.calls a3, hK _ ?_⟩
  refine BigFrame.wpQuiet_want rfl fun K hK => ?_
  try simp only [Act.put, List.setIfInBounds_toArray, List.set_cons_succ, List.set_cons_zero]
  go_big_quiet_op
  refine ⟨_, fun _ _ => rfl, hK _ ?_⟩
  refine BigFrame.wpQuiet_want rfl fun K hK => ?_
  try simp only [Act.put, List.setIfInBounds_toArray, List.set_cons_succ, List.set_cons_zero]
  go_big_quiet_op
  refine hK _ ?_
  refine BigFrame.wpQuiet_want rfl fun K hK => quiet_load 28 (.tmp 5) rfl (q1) rfl 28 _ (0, 0) _ (fun _ h => Calm.at HX.out h) Try.underlying28 rfl size28 (hK _ ?_)
  refine BigFrame.wpQuiet_want rfl fun K hK => quiet_load 28 (.tmp 6) rfl (q2) rfl 28 _ (0, 0) _ (fun _ h => Calm.at HY.out h) Try.underlying28 rfl size28 (hK _ ?_)
  refine BigFrame.wpQuiet_want rfl fun K hK => ?_
  try simp only [Act.put, List.setIfInBounds_toArray, List.set_cons_succ, List.set_cons_zero]
  go_big_quiet_op
  refine ⟨_, Calm.calls b1, hK _ ?_⟩
  refine BigFrame.wpQuiet_want rfl fun K hK => ?_
  try simp only [Act.put, List.setIfInBounds_toArray, List.set_cons_succ, List.set_cons_zero]
  go_big_quiet_op
  refine hK _ ?_
  refine BigFrame.wpQuiet_want rfl fun K hK => ?_
  try simp only [Act.put, List.setIfInBounds_toArray, List.set_cons_succ, List.set_cons_zero]
  go_big_quiet_op
  refine ⟨_, fun _ _ => rfl, hK _ ?_⟩
  refine BigFrame.wpQuiet_want rfl fun K hK => ?_
  try simp only [Act.put, List.setIfInBounds_toArray, List.set_cons_succ, List.set_cons_zero]
  go_big_quiet_op
  refine hK _ ?_
  refine BigFrame.wpQuiet_want rfl fun K hK => ?_
  try simp only [Act.put, List.setIfInBounds_toArray, List.set_cons_succ, List.set_cons_zero]
  go_big_quiet_op
  refine ⟨_, fun _ _ => rfl, hK _ ?_⟩
  refine BigFrame.wpQuiet_want rfl fun K hK => ?_
  try simp only [Act.put, List.setIfInBounds_toArray, List.set_cons_succ, List.set_cons_zero]
  go_big_quiet_op
  refine ⟨_, fun _ _ => rfl, hK _ ?_⟩
  refine BigFrame.wpQuiet_want rfl fun K hK => ?_
  try simp only [Act.put, List.setIfInBounds_toArray, List.set_cons_succ, List.set_cons_zero]
  go_big_quiet_op
  refine ⟨_, Calm.calls b2, hK _ ?_⟩
  refine BigFrame.wpQuiet_want rfl fun K hK => ?_
  try simp only [Act.put, List.setIfInBounds_toArray, List.set_cons_succ, List.set_cons_zero]
  go_big_quiet_op
  refine ⟨_, Calm.calls b3, hK _ ?_⟩
  refine BigFrame.wpQuiet_want rfl fun K hK => ?_
  try simp only [Act.put, List.setIfInBounds_toArray, List.set_cons_succ, List.set_cons_zero]
  go_big_quiet_op
  refine ⟨_, fun _ _ => rfl, hK _ ?_⟩
  refine BigFrame.wpQuiet_want rfl fun K hK => ?_
  try simp only [Act.put, List.setIfInBounds_toArray, List.set_cons_succ, List.set_cons_zero]
  go_big_quiet_op
  refine ⟨_, fun _ _ => rfl, hK _ ?_⟩
  refine wpQuiet_nil ?_
  intro w2 hw2
  have F2 : Hid (Fr (fun _ => False) w w2) := F0.out.trans hw2
  have HX2 := Lib.hid (Calm.at HX.out hw2)
  have HY2 := Lib.hid (Calm.at HY.out hw2)
  clear hw2 F0 HX HY
  try simp only [Act.put, List.setIfInBounds_toArray, List.set_cons_succ, List.set_cons_zero]
  by_cases hc : n ≤ m
  · obtain ⟨d1, d2, d3⟩ := D.out hc
    go_upto_region 5 with (fail)
    refine wp_region_head (C := Calm w2) 14 (Fr.refl _ _) ?_
    simp only [List.take_succ_cons, List.take_zero, List.drop_succ_cons, List.drop_zero]
    refine BigFrame.wpQuiet_want rfl fun K hK => quiet_load 28 (.tmp 5) rfl (q1) rfl 28 _ (0, 0) _ (fun _ h => Calm.at HX2.out h) Try.underlying28 rfl size28 (hK _ ?_)
    refine BigFrame.wpQuiet_want rfl fun K hK => quiet_load 28 (.tmp 6) rfl (q2) rfl 28 _ (0, 0) _ (fun _ h => Calm.at HY2.out h) Try.underlying28 rfl size28 (hK _ ?_)
    refine BigFrame.wpQuiet_want rfl fun K hK => ?_
    try simp only [Act.put, List.setIfInBounds_toArray, List.set_cons_succ, List.set_cons_zero]
    go_big_quiet_op
    refine ⟨_, Calm.calls d1, hK _ ?_⟩
    refine BigFrame.wpQuiet_want rfl fun K hK => ?_
    try simp only [Act.put, List.setIfInBounds_toArray, List.set_cons_succ, List.set_cons_zero]
    go_big_quiet_op
    refine hK _ ?_
    refine BigFrame.wpQuiet_want rfl fun K hK => ?_
    try simp only [Act.put, List.setIfInBounds_toArray, List.set_cons_succ, List.set_cons_zero]
    go_big_quiet_op
    refine ⟨_, fun _ _ => rfl, hK _ ?_⟩
    refine BigFrame.wpQuiet_want rfl fun K hK => ?_
    try simp only [Act.put, List.setIfInBounds_toArray, List.set_cons_succ, List.set_cons_zero]
    go_big_quiet_op
    refine hK _ ?_
    refine BigFrame.wpQuiet_want rfl fun K hK => ?_
    try simp only [Act.put, List.setIfInBounds_toArray, List.set_cons_succ, List.set_cons_zero]
    go_big_quiet_op
    refine ⟨_, fun _ _ => rfl, hK _ ?_⟩
    refine BigFrame.wpQuiet_want rfl fun K hK => ?_
    try simp only [Act.put, List.setIfInBounds_toArray, List.set_cons_succ, List.set_cons_zero]
    go_big_quiet_op
    refine ⟨_, fun _ _ => rfl, hK _ ?_⟩
    refine BigFrame.wpQuiet_want rfl fun K hK => ?_
    try simp only [Act.put, List.setIfInBounds_toArray, List.set_cons_succ, List.set_cons_zero]
    go_big_quiet_op
    refine ⟨_, Calm.calls d2, hK _ ?_⟩
    refine BigFrame.wpQuiet_want rfl fun K hK => ?_
    try simp only [Act.put, List.setIfInBounds_toArray, List.set_cons_succ, List.set_cons_zero]
    go_big_quiet_op
    refine ⟨_, Calm.calls d3, hK _ ?_⟩
    refine BigFrame.wpQuiet_want rfl fun K hK => ?_
    try simp only [Act.put, List.setIfInBounds_toArray, List.set_cons_succ, List.set_cons_zero]
    go_big_quiet_op
    refine hK _ ?_
    refine BigFrame.wpQuiet_want rfl fun K hK => ?_
    try simp only [Act.put, List.setIfInBounds_toArray, List.set_cons_succ, List.set_cons_zero]
    go_big_quiet_op
    refine ⟨_, Calm.calls k, hK _ ?_⟩
    refine BigFrame.wpQuiet_want rfl fun K hK => ?_
    try simp only [Act.put, List.setIfInBounds_toArray, List.set_cons_succ, List.set_cons_zero]
    go_big_quiet_op
    refine ⟨_, fun _ _ => rfl, hK _ ?_⟩
    refine BigFrame.wpQuiet_want rfl fun K hK => ?_
    try simp only [Act.put, List.setIfInBounds_toArray, List.set_cons_succ, List.set_cons_zero]
    go_big_quiet_op
    refine hK _ ?_
    refine wpQuiet_nil ?_
    intro w3 hw3
    have F3 : Hid (Fr (fun _ => False) w w3) := F2.out.trans hw3
    clear hw3
    try simp only [Act.put, List.setIfInBounds_toArray, List.set_cons_succ, List.set_cons_zero]
    go_wp2
    go_ret
    exact ⟨rfl, F3.out⟩
  · obtain ⟨d1, d2, d3⟩ := D'.out (by omega)
    go_upto_region 6 with (fail)
    refine wp_region_head (C := Calm w2) 14 (Fr.refl _ _) ?_
    simp only [List.take_succ_cons, List.take_zero, List.drop_succ_cons, List.drop_zero]
    refine BigFrame.wpQuiet_want rfl fun K hK => quiet_load 28 (.tmp 6) rfl (q2) rfl 28 _ (0, 0) _ (fun _ h => Calm.at HY2.out h) Try.underlying28 rfl size28 (hK _ ?_)
    refine BigFrame.wpQuiet_want rfl fun K hK => quiet_load 28 (.tmp 5) rfl (q1) rfl 28 _ (0, 0) _ (fun _ h => Calm.at HX2.out h) Try.underlying28 rfl size28 (hK _ ?_)
    refine BigFrame.wpQuiet_want rfl fun K hK => ?_
    try simp only [Act.put, List.setIfInBounds_toArray, List.set_cons_succ, List.set_cons_zero]
    go_big_quiet_op
    refine ⟨_, Calm.calls d1, hK _ ?_⟩
    refine BigFrame.wpQuiet_want rfl fun K hK => ?_
    try simp only [Act.put, List.setIfInBounds_toArray, List.set_cons_succ, List.set_cons_zero]
    go_big_quiet_op
    refine hK _ ?_
    refine BigFrame.wpQuiet_want rfl fun K hK => ?_
    try simp only [Act.put, List.setIfInBounds_toArray, List.set_cons_succ, List.set_cons_zero]
    go_big_quiet_op
    refine ⟨_, fun _ _ => rfl, hK _ ?_⟩
    refine BigFrame.wpQuiet_want rfl fun K hK => ?_
    try simp only [Act.put, List.setIfInBounds_toArray, List.set_cons_succ, List.set_cons_zero]
    go_big_quiet_op
    refine hK _ ?_
    refine BigFrame.wpQuiet_want rfl fun K hK => ?_
    try simp only [Act.put, List.setIfInBounds_toArray, List.set_cons_succ, List.set_cons_zero]
    go_big_quiet_op
    refine ⟨_, fun _ _ => rfl, hK _ ?_⟩
    refine BigFrame.wpQuiet_want rfl fun K hK => ?_
    try simp only [Act.put, List.setIfInBounds_toArray, List.set_cons_succ, List.set_cons_zero]
    go_big_quiet_op
    refine ⟨_, fun _ _ => rfl, hK _ ?_⟩
    refine BigFrame.wpQuiet_want rfl fun K hK => ?_
    try simp only [Act.put, List.setIfInBounds_toArray, List.set_cons_succ, List.set_cons_zero]
    go_big_quiet_op
    refine ⟨_, Calm.calls d2, hK _ ?_⟩
    refine BigFrame.wpQuiet_want rfl fun K hK => ?_
    try simp only [Act.put, List.setIfInBounds_toArray, List.set_cons_succ, List.set_cons_zero]
    go_big_quiet_op
    refine ⟨_, Calm.calls d3, hK _ ?_⟩
    refine BigFrame.wpQuiet_want rfl fun K hK => ?_
    try simp only [Act.put, List.setIfInBounds_toArray, List.set_cons_succ, List.set_cons_zero]
    go_big_quiet_op
    refine hK _ ?_
    refine BigFrame.wpQuiet_want rfl fun K hK => ?_
    try simp only [Act.put, List.setIfInBounds_toArray, List.set_cons_succ, List.set_cons_zero]
    go_big_quiet_op
    refine ⟨_, Calm.calls k, hK _ ?_⟩
    refine BigFrame.wpQuiet_want rfl fun K hK => ?_
    try simp only [Act.put, List.setIfInBounds_toArray, List.set_cons_succ, List.set_cons_zero]
    go_big_quiet_op
    refine ⟨_, fun _ _ => rfl, hK _ ?_⟩
    refine BigFrame.wpQuiet_want rfl fun K hK => ?_
    try simp only [Act.put, List.setIfInBounds_toArray, List.set_cons_succ, List.set_cons_zero]
    go_big_quiet_op
    refine hK _ ?_
    refine wpQuiet_nil ?_
    intro w3 hw3
    have F3 : Hid (Fr (fun _ => False) w w3) := F2.out.trans hw3
    clear hw3
    try simp only [Act.put, List.setIfInBounds_toArray, List.set_cons_succ, List.set_cons_zero]
    go_wp2
    go_ret
    exact ⟨rfl, F3.out⟩

theorem law_small_any (a0 a1 : Int) (w : World) (h0 : 0 ≤ a0 ∧ a0 ≤ 65535) (h1 : 0 ≤ a1 ∧ a1 ≤ 65535) :
    Calls Try.prog 12 #[.int .u16 a0, .int .u16 a1] w fun e w' => e = .returned (.bool true) ∧ Fr (fun _ => False) w w' := law_small_walk a0 a1 w h0.1 h0.2 h1.1 h1.2

set_option maxRecDepth 100000 in
theorem law_small_lifted (os : Os) (started : os.Started) (H : Type) (enc : TypeId × Value → H) :
    ReturnsInHanded {} Try.checked os 12 .any (Rows.fieldSmallSpec.pre6 enc Try.prog Try.f12 Rows.fieldSmallRow.domain false) (Rows.fieldSmallSpec.post enc Try.prog Try.f12 false true false false) := by
  refine returnsInHanded_of_change (C := Try.checked) own started (by kernel_rfl) Try.func12
    (ChangeSpec.witness6 (enc := enc) (C := Try.checked) false ⟨#[], #[.int .u16 0, .int .u16 0], []⟩ 8 (by kernel_rfl) (by kernel_rfl) (by kernel_rfl) (by kernel_rfl)) ?_
  intro W base args ds gs before hval0 hW hcnd _
  have hval : ∀ (j : Nat) t v, Try.f12.params[j]? = some t → args[j]? = some v → Value.okWide Try.prog W .any base t v := hval0
  have hW' := hW
  obtain ⟨p, q, hA0, hV, rfl, hfz, hnd⟩ := hW
  have hA : DataW.TrodAll enc Try.prog W 0 (fun _ => true) true Try.f12.params.toList args.toList ds p := hA0
  rw [Try.params12] at hA hval
  obtain ⟨v0, vs0, d0, ds0, p0, q0, hargs, rfl, rfl, h0, r0⟩ := trodAll_cons hA
  obtain ⟨v1, vs1, d1, ds1, p1, q1, rfl, rfl, rfl, h1, r1⟩ := trodAll_cons r0
  obtain ⟨rfl, rfl, rfl⟩ := trodAll_nil r1
  obtain rfl : args = #[v0, v1] := by cases args; simp_all
  obtain ⟨rfl, rfl⟩ := trodVars_none hV
  obtain ⟨a0, rfl, rfl, rfl, w0⟩ := open_int Try.underlying52 (hval 0 52 v0 rfl rfl) h0
  obtain ⟨a1, rfl, rfl, rfl, w1⟩ := open_int Try.underlying52 (hval 1 52 v1 rfl rfl) h1
  clear hA0 hval0
  refine (law_small_any a0 a1 W (bounds_u16 w0) (bounds_u16 w1)).mono fun e W' ⟨he, hg⟩ => ?_
  subst he
  exact ⟨_, rfl, post_true rfl hW' (by kernel_rfl) rfl rfl hg⟩

theorem fieldSmall_holds : Rows.FieldSmallSaid :=
  OpenClaim.holds_of_wide 12 Try.f12 rfl rfl rfl rfl rfl rfl rfl ⟨rfl, rfl, rfl, rfl, rfl⟩ rfl rfl rfl rfl rfl (by kernel_rfl) Try.func12 (by kernel_rfl)
    (of_decide_eq_true (by kernel_rfl)) (by unfold Func.isWrapper; first | (rw [if_pos (by decide +kernel)]; kernel_rfl) | (rw [if_neg (by decide +kernel)]; exact ⟨rfl, rfl⟩))
    (fun os started H enc _ => law_small_lifted os started H enc)
#print axioms fieldSmall_holds
end Go.Proofs.Ytmhoblefpkjdlaa
