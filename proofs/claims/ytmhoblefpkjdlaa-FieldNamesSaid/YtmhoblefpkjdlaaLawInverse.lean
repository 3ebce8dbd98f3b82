/- FieldInverse answers true for every number of 32 bytes, and its argument reads behind the call as it did: the given statement FieldInverseSaid. No condition. -/
import Derived.Test.YtmhoblefpkjdlaaLift
import Derived.Test.YtmhoblefpkjdlaaInvR
import Derived.Test.YtmhoblefpkjdlaaRefE
import Derived.Test.YtmhoblefpkjdlaaFermat
import Derived.Deep.Cut
namespace Go.Proofs.Ytmhoblefpkjdlaa
open Go.ChangeShapes Go.WideShapes Go.ChangeAt Go.RowKit

theorem z28c : ∀ w : World, (zeroValue 28).run Try.prog w = .ok (.agg #[.int .u64 0, .int .u64 0, .int .u64 0, .int .u64 0]) w := fun _ => by kernel_rfl
theorem cast_pow (n k P : Nat) (h : n ^ k % P = 1) : ((n : Int) ^ k) % (P : Int) = 1 := by
  have := congrArg (fun x : Nat => (x : Int)) h
  simpa using this
theorem ex0_succ : ex 0 + 1 = 57896044618658097711785492504343953926634992332820282019728792003956564819949 - 1 := by decide +kernel
theorem one_mod : 1 % 57896044618658097711785492504343953926634992332820282019728792003956564819949 = 1 := by decide +kernel
/-- Each number but 0 times its Inv is 1. -/
theorem inv_one {u : Int} (h : El u) (h0 : u ≠ 0) : (u * pwr u (ex 0)) % pp = 1 := by
  obtain ⟨hu0, hu1⟩ := h
  obtain ⟨n, rfl⟩ := Int.eq_ofNat_of_zero_le hu0
  have hf := fermat_p.2 n (by omega) (by unfold pp at hu1; omega)
  rw [one_mod, ← ex0_succ] at hf
  have h2 := cast_pow n (ex 0 + 1) _ hf
  have h3 : pwr (n : Int) (ex 0 + 1) = 1 := h2
  rw [pwr_next] at h3
  rw [Int.mul_comm]
  exact h3
theorem inv_el_ne {u : Int} (h : El u) (h0 : u ≠ 0) : pwr u (ex 0) ≠ 0 := by
  intro e
  have := inv_one h h0
  rw [e, Int.mul_zero] at this
  exact absurd this (by decide)
theorem inv_back {u : Int} (h : El u) (h0 : u ≠ 0) : pwr (pwr u (ex 0)) (ex 0) = u := by
  obtain ⟨i, hi⟩ : ∃ i, i = pwr u (ex 0) := ⟨_, rfl⟩
  have h1 := inv_one h h0
  have h2 := inv_one (pwr_el u (ex 0)) (inv_el_ne h h0)
  rw [← hi] at h1 h2 ⊢
  obtain ⟨j, hj⟩ : ∃ j, j = pwr i (ex 0) := ⟨_, rfl⟩
  rw [← hj] at h2 ⊢
  have ej : El j := hj ▸ pwr_el _ _
  have e1 : j % pp = j := Int.emod_eq_of_lt ej.1 ej.2
  have e2 : u % pp = u := Int.emod_eq_of_lt h.1 h.2
  have k1 : (u * i * j) % pp = j := by
    rw [Int.mul_emod, h1, Int.one_mul, Int.emod_emod_of_dvd _ (Int.dvd_refl pp), e1]
  have k2 : (u * i * j) % pp = u := by
    rw [Int.mul_assoc, Int.mul_emod, h2, Int.mul_one, Int.emod_emod_of_dvd _ (Int.dvd_refl pp), e2]
  rw [← k1, k2]
theorem pwr_zero_base : pwr 0 (ex 0) = 0 := by
  have h : ex 0 = (ex 0 - 1) + 1 := by decide +kernel
  rw [h, pwr_next, Int.mul_zero]
  decide

set_option maxRecDepth 100000 in
set_option maxHeartbeats 4000000 in
theorem law_inverse_zero (l : List Int) (w : World) (hl : l.length = 32) (bl : Bys l) (hu : fe l = 0) :
    Calls Try.prog 10 #[.agg (vs .u8 l)] w fun e w' => e = .returned (.bool true) ∧ Fr (fun _ => False) w w' := by
  have eu : El (fe l) := El.mod _
  obtain ⟨u, hul⟩ : ∃ u, u = fe l := ⟨_, rfl⟩
  rw [← hul] at eu hu
  obtain ⟨i, hi⟩ : ∃ i, i = pwr u (ex 0) := ⟨_, rfl⟩
  have ei0 : El i := hi ▸ pwr_el _ _
  obtain ⟨a0, a1, a2, a3, hA⟩ := ws_of eu
  have c1 : ∀ W, Calls Try.prog 14 #[.agg (vs .u8 l)] W fun e w' => e = .returned (.agg #[.int .u64 a0, .int .u64 a1, .int .u64 a2, .int .u64 a3]) ∧ Fr (fun _ => False) W w' := fun W => by
    rw [← hA.eq, hul]
    exact from_el l W hl bl
  have hi0 : i = 0 := by rw [hi, hu]; exact pwr_zero_base
  have hx : (u * i) % pp = 0 := by rw [hu, Int.zero_mul]; decide
  have hX : Ws 0 0 0 0 0 := ws_small 0 (by decide) (by decide)
  obtain ⟨x0, x1, x2, x3, hx0, hx1, hx2, hx3⟩ : ∃ x0 x1 x2 x3 : Int, x0 = 0 ∧ x1 = 0 ∧ x2 = 0 ∧ x3 = 0 := ⟨_, _, _, _, rfl, rfl, rfl, rfl⟩
  have hX' : Ws 0 x0 x1 x2 x3 := by rw [hx0, hx1, hx2, hx3]; exact hX
  have c2 : ∀ W, Calls Try.prog 27 #[.agg #[.int .u64 a0, .int .u64 a1, .int .u64 a2, .int .u64 a3]] W fun e w' => e = .returned (el i) ∧ Fr (fun _ => False) W w' := fun W => by
    rw [hi]
    exact inv_w hA W
  have c3 : ∀ W, Calls Try.prog 25 #[.agg #[.int .u64 a0, .int .u64 a1, .int .u64 a2, .int .u64 a3], el i] W fun e w' => e = .returned (.agg #[.int .u64 x0, .int .u64 x1, .int .u64 x2, .int .u64 x3]) ∧ Fr (fun _ => False) W w' := fun W => by
    rw [← hX'.eq]
    exact mul_wl hA ei0 hx W
  have c4 : ∀ W, Calls Try.prog 18 #[.agg #[.int .u64 a0, .int .u64 a1, .int .u64 a2, .int .u64 a3]] W fun e w' => e = .returned (.bool true) ∧ Fr (fun _ => False) W w' := fun W => zero_w1 hA hu W
  have c5 : ∀ W, Calls Try.prog 18 #[.agg #[.int .u64 x0, .int .u64 x1, .int .u64 x2, .int .u64 x3]] W fun e w' => e = .returned (.bool true) ∧ Fr (fun _ => False) W w' := fun W => zero_w1 hX' rfl W
  have c6 : ∀ W, Calls Try.prog 18 #[el i] W fun e w' => e = .returned (.bool true) ∧ Fr (fun _ => False) W w' := fun W => by
    rw [hi0]
    exact zero_yes W
  have c7 := awake_is
  obtain ⟨ei, hei⟩ : ∃ e, e = el i := ⟨_, rfl⟩
  rw [← hei] at c2 c3 c6
  have H1 : Hid ((Try.prog.info? 22).map (·.size) = some (vs .u8 l).size) := by show _ = _; rw [size22, vs_size, hl]
  clear hx0 hx1 hx2 hx3 hX hX' hA hx hei hi hul hu eu ei0 hl bl hi0
  go_enter Try.func10, Try.ntmps10
  go_upto_region 1 with (fail)
  generalize hW : w.alloc (.cells (vs .u8 l) 22) = W0
  have HW := Lib.hid (calm1a hW)
  clear hW
  refine wp_region_head (C := Calm W0) 2 (Fr.refl _ _) ?_
  simp only [List.take_succ_cons, List.take_zero, List.drop_succ_cons, List.drop_zero]
  refine BigFrame.wpQuiet_want rfl fun K hK => quiet_load 22 (.tmp 1) rfl (w.heap.size) rfl 22 _ (0, 0) _ (fun _ h => Calm.at HW.out.1 h) Try.underlying22 rfl H1.out (hK _ ?_)
  refine BigFrame.wpQuiet_want rfl fun K hK => ?_
  try simp only [Act.put, List.setIfInBounds_toArray, List.set_cons_succ, List.set_cons_zero]
  go_big_quiet_op
  refine ⟨_, Calm.calls c1, hK _ ?_⟩
  refine wpQuiet_nil ?_
  intro w1 hw1
  try simp only [Act.put, List.setIfInBounds_toArray, List.set_cons_succ, List.set_cons_zero]
  go_upto_region 2 with (fail)
  generalize hW : w1.alloc (.cells #[.int .u64 a0, .int .u64 a1, .int .u64 a2, .int .u64 a3] 28) = W1
  have HW1 := Lib.hid (calm1a hW)
  obtain ⟨q3, hq3⟩ : ∃ q, q = w1.heap.size := ⟨_, rfl⟩
  have X3 := Lib.hid HW1.out.1
  have F1 : Hid (Fr (fun _ => False) w W1) := (Fr.trans HW.out.2 hw1).trans HW1.out.2
  rw [← hq3] at X3 ⊢
  clear hW HW1 hw1 hq3 HW
  refine wp_region_inv (fun b a w' => ∃ g4 : Nat, Fr (fun _ => False) W1 w' ∧ (b 4 = true → W1.heap.size ≤ g4 ∧ w'.heap[g4]? = some (.cells (if b 5 = true then #[.int .u64 x0, .int .u64 x1, .int .u64 x2, .int .u64 x3] else #[.int .u64 0, .int .u64 0, .int .u64 0, .int .u64 0]) 28 (0, 0))) ∧ (b 5 = true → b 4 = true) ∧ a = ⟨#[.agg (vs .u8 l), .pointer (some ⟨w.heap.size, 0, none⟩), .bool false, .pointer (some ⟨q3, 0, none⟩), if b 4 = true then .pointer (some ⟨g4, 0, none⟩) else undef, .agg (vs .u8 l), .agg #[.int .u64 a0, .int .u64 a1, .int .u64 a2, .int .u64 a3], if b 0 = true then .agg #[.int .u64 a0, .int .u64 a1, .int .u64 a2, .int .u64 a3] else undef, if b 1 = true then .agg #[.int .u64 a0, .int .u64 a1, .int .u64 a2, .int .u64 a3] else undef, if b 2 = true then ei else undef, if b 3 = true then .agg #[.int .u64 x0, .int .u64 x1, .int .u64 x2, .int .u64 x3] else undef, undef, undef, undef, undef, undef, undef, undef, undef, undef, undef, undef, undef, undef, undef, undef, undef, undef, undef, undef, undef, undef, undef, undef, undef, undef], []⟩) (by kernel_rfl) (by kernel_rfl) ?start ?step ?done
  case start => exact ⟨0, ⟨rfl, rfl, rfl, Nat.le_refl _, fun _ _ _ => rfl⟩, by simp, by simp, by simp⟩
  case step =>
    intro i o b a w3 ho hI hb hr
    obtain ⟨g4, hF, h4, hq4, rfl⟩ := hI
    match i, ho with
    | 0, ho =>
      injection ho with ho
      subst ho
      refine wp_quiet_here _ (quiet_load 28 (.tmp 3) rfl (q3) rfl 28 _ (0, 0) _ (fun _ h => Calm.at (Calm.at X3.out hF) h) Try.underlying28 rfl size28 rfl) (fun w2 hw2 => ?_)
      refine ⟨g4, hF.trans hw2, ?_, ?_, ?_⟩
      · intro hx
        obtain ⟨k1, k2⟩ := h4 (by simpa [upd] using hx)
        refine ⟨k1, (hw2.block _ (heap_lt k2) (fun x => x)).trans ?_⟩
        rw [k2]
        simp [upd]
      · simpa [upd] using hq4
      · simp [upd, Act.put]
    | 1, ho =>
      injection ho with ho
      subst ho
      refine wp_quiet_here _ (quiet_load 28 (.tmp 3) rfl (q3) rfl 28 _ (0, 0) _ (fun _ h => Calm.at (Calm.at X3.out hF) h) Try.underlying28 rfl size28 rfl) (fun w2 hw2 => ?_)
      refine ⟨g4, hF.trans hw2, ?_, ?_, ?_⟩
      · intro hx
        obtain ⟨k1, k2⟩ := h4 (by simpa [upd] using hx)
        refine ⟨k1, (hw2.block _ (heap_lt k2) (fun x => x)).trans ?_⟩
        rw [k2]
        simp [upd]
      · simpa [upd] using hq4
      · simp [upd, Act.put]
    | 2, ho =>
      injection ho with ho
      subst ho
      simp [Region.binds] at hr
      simp only [hr, if_true]
      refine wp_quiet_here (ei) ?_ (fun w2 hw2 => ?_)
      · go_big_quiet_op
        exact ⟨_, Calm.calls c2, by simp [Act.put]⟩
      refine ⟨g4, hF.trans hw2, ?_, ?_, ?_⟩
      · intro hx
        obtain ⟨k1, k2⟩ := h4 (by simpa [upd] using hx)
        refine ⟨k1, (hw2.block _ (heap_lt k2) (fun x => x)).trans ?_⟩
        rw [k2]
        simp [upd]
      · simpa [upd] using hq4
      · simp [upd, Act.put, hr]
    | 3, ho =>
      injection ho with ho
      subst ho
      simp [Region.binds] at hr
      simp only [hr, if_true]
      refine wp_quiet_here (.agg #[.int .u64 x0, .int .u64 x1, .int .u64 x2, .int .u64 x3]) ?_ (fun w2 hw2 => ?_)
      · go_big_quiet_op
        exact ⟨_, Calm.calls c3, by simp [Act.put]⟩
      refine ⟨g4, hF.trans hw2, ?_, ?_, ?_⟩
      · intro hx
        obtain ⟨k1, k2⟩ := h4 (by simpa [upd] using hx)
        refine ⟨k1, (hw2.block _ (heap_lt k2) (fun x => x)).trans ?_⟩
        rw [k2]
        simp [upd]
      · simpa [upd] using hq4
      · simp [upd, Act.put, hr]
    | 4, ho =>
      injection ho with ho
      subst ho
      refine wp_alloc_any 28 rfl (#[.int .u64 0, .int .u64 0, .int .u64 0, .int .u64 0]) z28c ?_
      refine ⟨w3.heap.size, hF.alloc _, ?_, ?_, ?_⟩
      · intro _
        refine ⟨hF.size, (heap_alloc_new w3 _).trans ?_⟩
        have hs : b 5 = false := by
          rcases hbs : b 5 with _ | _
          · rfl
          · rw [hq4 hbs] at hb
            cases hb
        simp [upd, hs]
      · simp [upd]
      · simp [upd, Act.put]
    | 5, ho =>
      injection ho with ho
      subst ho
      simp [Region.binds] at hr
      obtain ⟨k1, k2⟩ := h4 (by simp [hr])
      rw [hb] at k2
      simp only [Bool.false_eq_true, if_false] at k2
      simp only [hr, if_true]
      refine wp_store_row 28 (.tmp 4) (.tmp 10) rfl g4 (#[.int .u64 x0, .int .u64 x1, .int .u64 x2, .int .u64 x3]) rfl rfl 28 _ k2 size28 rfl (vs_all .u64 [x0, x1, x2, x3]) ?_
      refine ⟨g4, hF.setRow _ (.inr k1), ?_, ?_, ?_⟩
      · intro _
        refine ⟨k1, (setRow_heap _ _ _ _ _ _ k2).trans ?_⟩
        simp [upd]
      · simp [upd, hr]
      · simp [upd, Act.put, hr]
    | j + 6, ho => exact absurd ho (by simp)
  case done =>
    intro b a w3 hall hI
    obtain ⟨g4, hF, h4, hq4, rfl⟩ := hI
    have t0 : b 0 = true := hall 0 (by simp)
    have t1 : b 1 = true := hall 1 (by simp)
    have t2 : b 2 = true := hall 2 (by simp)
    have t3 : b 3 = true := hall 3 (by simp)
    have t4 : b 4 = true := hall 4 (by simp)
    have t5 : b 5 = true := hall 5 (by simp)
    simp only [t0, t1, t2, t3, t4, t5, if_true, true_implies] at h4 hq4 ⊢
    have Y3 := Lib.hid (Calm.at X3.out hF)
    have Y4 := Lib.hid h4.2
    have F3 : Hid (Fr (fun _ => False) w w3) := F1.out.trans hF
    clear h4 hq4 hall hF X3 F1
    go_upto_region 3 with (fail)
    refine wp_region_head (C := Calm w3) 2 (Fr.refl _ _) ?_
    simp only [List.take_succ_cons, List.take_zero, List.drop_succ_cons, List.drop_zero]
    refine BigFrame.wpQuiet_want rfl fun K hK => quiet_load 28 (.tmp 3) rfl (q3) rfl 28 _ (0, 0) _ (fun _ h => Calm.at Y3.out h) Try.underlying28 rfl size28 (hK _ ?_)
    refine BigFrame.wpQuiet_want rfl fun K hK => ?_
    try simp only [Act.put, List.setIfInBounds_toArray, List.set_cons_succ, List.set_cons_zero]
    go_big_quiet_op
    refine ⟨_, Calm.calls c4, hK _ ?_⟩
    refine wpQuiet_nil ?_
    intro w4 hw4
    have Z3 := Lib.hid (Calm.at Y3.out hw4)
    have Z4 := Lib.hid (Calm.at Y4.out hw4)
    have F4 : Hid (Fr (fun _ => False) w w4) := F3.out.trans hw4
    clear hw4 F3 Y3 Y4
    try simp only [Act.put, List.setIfInBounds_toArray, List.set_cons_succ, List.set_cons_zero]
    go_upto_region 4 with (fail)
    refine wp_region_head (C := Calm w4) 11 (Fr.refl _ _) ?_
    simp only [List.take_succ_cons, List.take_zero, List.drop_succ_cons, List.drop_zero]
    refine BigFrame.wpQuiet_want rfl fun K hK => quiet_load 28 (.tmp 4) rfl (g4) rfl 28 _ (0, 0) _ (fun _ h => Calm.at Z4.out h) Try.underlying28 rfl size28 (hK _ ?_)
    refine BigFrame.wpQuiet_want rfl fun K hK => ?_
    try simp only [Act.put, List.setIfInBounds_toArray, List.set_cons_succ, List.set_cons_zero]
    go_big_quiet_op
    refine ⟨_, Calm.calls c5, hK _ ?_⟩
    refine BigFrame.wpQuiet_want rfl fun K hK => ?_
    try simp only [Act.put, List.setIfInBounds_toArray, List.set_cons_succ, List.set_cons_zero]
    go_big_quiet_op
    refine hK _ ?_
    refine BigFrame.wpQuiet_want rfl fun K hK => quiet_load 28 (.tmp 3) rfl (q3) rfl 28 _ (0, 0) _ (fun _ h => Calm.at Z3.out h) Try.underlying28 rfl size28 (hK _ ?_)
    refine BigFrame.wpQuiet_want rfl fun K hK => ?_
    try simp only [Act.put, List.setIfInBounds_toArray, List.set_cons_succ, List.set_cons_zero]
    go_big_quiet_op
    refine ⟨_, Calm.calls c2, hK _ ?_⟩
    refine BigFrame.wpQuiet_want rfl fun K hK => ?_
    try simp only [Act.put, List.setIfInBounds_toArray, List.set_cons_succ, List.set_cons_zero]
    go_big_quiet_op
    refine ⟨_, Calm.calls c6, hK _ ?_⟩
    refine BigFrame.wpQuiet_want rfl fun K hK => ?_
    try simp only [Act.put, List.setIfInBounds_toArray, List.set_cons_succ, List.set_cons_zero]
    go_big_quiet_op
    refine ⟨_, fun _ _ => rfl, hK _ ?_⟩
    refine BigFrame.wpQuiet_want rfl fun K hK => ?_
    try simp only [Act.put, List.setIfInBounds_toArray, List.set_cons_succ, List.set_cons_zero]
    go_big_quiet_op
    refine hK _ ?_
    refine BigFrame.wpQuiet_want rfl fun K hK => ?_
    try simp only [Act.put, List.setIfInBounds_toArray, List.set_cons_succ, List.set_cons_zero]
    go_big_quiet_op
    refine ⟨_, Calm.calls c7, hK _ ?_⟩
    refine BigFrame.wpQuiet_want rfl fun K hK => ?_
    try simp only [Act.put, List.setIfInBounds_toArray, List.set_cons_succ, List.set_cons_zero]
    go_big_quiet_op
    refine ⟨_, fun _ _ => rfl, hK _ ?_⟩
    refine BigFrame.wpQuiet_want rfl fun K hK => ?_
    try simp only [Act.put, List.setIfInBounds_toArray, List.set_cons_succ, List.set_cons_zero]
    go_big_quiet_op
    refine hK _ ?_
    refine wpQuiet_nil ?_
    intro w5 hw5
    have F5 : Hid (Fr (fun _ => False) w w5) := F4.out.trans hw5
    clear hw5
    try simp only [Act.put, List.setIfInBounds_toArray, List.set_cons_succ, List.set_cons_zero]
    go_wp2
    go_ret
    exact ⟨rfl, F5.out⟩

set_option maxRecDepth 100000 in
set_option maxHeartbeats 4000000 in
theorem law_inverse_else (l : List Int) (w : World) (hl : l.length = 32) (bl : Bys l) (hu : fe l ≠ 0) :
    Calls Try.prog 10 #[.agg (vs .u8 l)] w fun e w' => e = .returned (.bool true) ∧ Fr (fun _ => False) w w' := by
  have eu : El (fe l) := El.mod _
  obtain ⟨u, hul⟩ : ∃ u, u = fe l := ⟨_, rfl⟩
  rw [← hul] at eu hu
  obtain ⟨i, hi⟩ : ∃ i, i = pwr u (ex 0) := ⟨_, rfl⟩
  have ei0 : El i := hi ▸ pwr_el _ _
  obtain ⟨a0, a1, a2, a3, hA⟩ := ws_of eu
  have c1 : ∀ W, Calls Try.prog 14 #[.agg (vs .u8 l)] W fun e w' => e = .returned (.agg #[.int .u64 a0, .int .u64 a1, .int .u64 a2, .int .u64 a3]) ∧ Fr (fun _ => False) W w' := fun W => by
    rw [← hA.eq, hul]
    exact from_el l W hl bl
  have hx : (u * i) % pp = 1 := by rw [hi]; exact inv_one eu hu
  have hX : Ws 1 1 0 0 0 := ws_small 1 (by decide) (by decide)
  obtain ⟨x0, x1, x2, x3, hx0, hx1, hx2, hx3⟩ : ∃ x0 x1 x2 x3 : Int, x0 = 1 ∧ x1 = 0 ∧ x2 = 0 ∧ x3 = 0 := ⟨_, _, _, _, rfl, rfl, rfl, rfl⟩
  have hX' : Ws 1 x0 x1 x2 x3 := by rw [hx0, hx1, hx2, hx3]; exact hX
  have c2 : ∀ W, Calls Try.prog 27 #[.agg #[.int .u64 a0, .int .u64 a1, .int .u64 a2, .int .u64 a3]] W fun e w' => e = .returned (el i) ∧ Fr (fun _ => False) W w' := fun W => by
    rw [hi]
    exact inv_w hA W
  have c3 : ∀ W, Calls Try.prog 25 #[.agg #[.int .u64 a0, .int .u64 a1, .int .u64 a2, .int .u64 a3], el i] W fun e w' => e = .returned (.agg #[.int .u64 x0, .int .u64 x1, .int .u64 x2, .int .u64 x3]) ∧ Fr (fun _ => False) W w' := fun W => by
    rw [← hX'.eq]
    exact mul_wl hA ei0 hx W
  have c4 : ∀ W, Calls Try.prog 18 #[.agg #[.int .u64 a0, .int .u64 a1, .int .u64 a2, .int .u64 a3]] W fun e w' => e = .returned (.bool false) ∧ Fr (fun _ => False) W w' := fun W => zero_w0 hA hu W
  have c5 := fun W => small_is 1 W (by decide) (by decide)
  have c6 : ∀ W, Calls Try.prog 30 #[.agg #[.int .u64 x0, .int .u64 x1, .int .u64 x2, .int .u64 x3], el 1] W fun e w' => e = .returned (.bool true) ∧ Fr (fun _ => False) W w' := fun W => same_w1 hX' ⟨by decide, by decide⟩ rfl W
  have c7 := awake_is
  have c8 : ∀ W, Calls Try.prog 27 #[el i] W fun e w' => e = .returned (el u) ∧ Fr (fun _ => False) W w' := fun W => by
    have h := inv_is i W ei0
    rwa [show pwr i (ex 0) = u by rw [hi]; exact inv_back eu hu] at h
  have c9 : ∀ W, Calls Try.prog 30 #[el u, .agg #[.int .u64 a0, .int .u64 a1, .int .u64 a2, .int .u64 a3]] W fun e w' => e = .returned (.bool true) ∧ Fr (fun _ => False) W w' := fun W => same_w2 hA eu rfl W
  obtain ⟨ei, hei⟩ : ∃ e, e = el i := ⟨_, rfl⟩
  rw [← hei] at c2 c3 c8
  obtain ⟨eu', heu⟩ : ∃ e, e = el u := ⟨_, rfl⟩
  rw [← heu] at c8 c9
  have H1 : Hid ((Try.prog.info? 22).map (·.size) = some (vs .u8 l).size) := by show _ = _; rw [size22, vs_size, hl]
  clear hx0 hx1 hx2 hx3 hX hX' hA hx hei hi hul hu eu ei0 hl bl heu
  go_enter Try.func10, Try.ntmps10
  go_upto_region 1 with (fail)
  generalize hW : w.alloc (.cells (vs .u8 l) 22) = W0
  have HW := Lib.hid (calm1a hW)
  clear hW
  refine wp_region_head (C := Calm W0) 2 (Fr.refl _ _) ?_
  simp only [List.take_succ_cons, List.take_zero, List.drop_succ_cons, List.drop_zero]
  refine BigFrame.wpQuiet_want rfl fun K hK => quiet_load 22 (.tmp 1) rfl (w.heap.size) rfl 22 _ (0, 0) _ (fun _ h => Calm.at HW.out.1 h) Try.underlying22 rfl H1.out (hK _ ?_)
  refine BigFrame.wpQuiet_want rfl fun K hK => ?_
  try simp only [Act.put, List.setIfInBounds_toArray, List.set_cons_succ, List.set_cons_zero]
  go_big_quiet_op
  refine ⟨_, Calm.calls c1, hK _ ?_⟩
  refine wpQuiet_nil ?_
  intro w1 hw1
  try simp only [Act.put, List.setIfInBounds_toArray, List.set_cons_succ, List.set_cons_zero]
  go_upto_region 2 with (fail)
  generalize hW : w1.alloc (.cells #[.int .u64 a0, .int .u64 a1, .int .u64 a2, .int .u64 a3] 28) = W1
  have HW1 := Lib.hid (calm1a hW)
  obtain ⟨q3, hq3⟩ : ∃ q, q = w1.heap.size := ⟨_, rfl⟩
  have X3 := Lib.hid HW1.out.1
  have F1 : Hid (Fr (fun _ => False) w W1) := (Fr.trans HW.out.2 hw1).trans HW1.out.2
  rw [← hq3] at X3 ⊢
  clear hW HW1 hw1 hq3 HW
  refine wp_region_inv (fun b a w' => ∃ g4 : Nat, Fr (fun _ => False) W1 w' ∧ (b 4 = true → W1.heap.size ≤ g4 ∧ w'.heap[g4]? = some (.cells (if b 5 = true then #[.int .u64 x0, .int .u64 x1, .int .u64 x2, .int .u64 x3] else #[.int .u64 0, .int .u64 0, .int .u64 0, .int .u64 0]) 28 (0, 0))) ∧ (b 5 = true → b 4 = true) ∧ a = ⟨#[.agg (vs .u8 l), .pointer (some ⟨w.heap.size, 0, none⟩), .bool false, .pointer (some ⟨q3, 0, none⟩), if b 4 = true then .pointer (some ⟨g4, 0, none⟩) else undef, .agg (vs .u8 l), .agg #[.int .u64 a0, .int .u64 a1, .int .u64 a2, .int .u64 a3], if b 0 = true then .agg #[.int .u64 a0, .int .u64 a1, .int .u64 a2, .int .u64 a3] else undef, if b 1 = true then .agg #[.int .u64 a0, .int .u64 a1, .int .u64 a2, .int .u64 a3] else undef, if b 2 = true then ei else undef, if b 3 = true then .agg #[.int .u64 x0, .int .u64 x1, .int .u64 x2, .int .u64 x3] else undef, undef, undef, undef, undef, undef, undef, undef, undef, undef, undef, undef, undef, undef, undef, undef, undef, undef, undef, undef, undef, undef, undef, undef, undef, undef], []⟩) (by kernel_rfl) (by kernel_rfl) ?start ?step ?done
  case start => exact ⟨0, ⟨rfl, rfl, rfl, Nat.le_refl _, fun _ _ _ => rfl⟩, by simp, by simp, by simp⟩
  case step =>
    intro i o b a w3 ho hI hb hr
    obtain ⟨g4, hF, h4, hq4, rfl⟩ := hI
    match i, ho with
    | 0, ho =>
      injection ho with ho
      subst ho
      refine wp_quiet_here _ (quiet_load 28 (.tmp 3) rfl (q3) rfl 28 _ (0, 0) _ (fun _ h => Calm.at (Calm.at X3.out hF) h) Try.underlying28 rfl size28 rfl) (fun w2 hw2 => ?_)
      refine ⟨g4, hF.trans hw2, ?_, ?_, ?_⟩
      · intro hx
        obtain ⟨k1, k2⟩ := h4 (by simpa [upd] using hx)
        refine ⟨k1, (hw2.block _ (heap_lt k2) (fun x => x)).trans ?_⟩
        rw [k2]
        simp [upd]
      · simpa [upd] using hq4
      · simp [upd, Act.put]
    | 1, ho =>
      injection ho with ho
      subst ho
      refine wp_quiet_here _ (quiet_load 28 (.tmp 3) rfl (q3) rfl 28 _ (0, 0) _ (fun _ h => Calm.at (Calm.at X3.out hF) h) Try.underlying28 rfl size28 rfl) (fun w2 hw2 => ?_)
      refine ⟨g4, hF.trans hw2, ?_, ?_, ?_⟩
      · intro hx
        obtain ⟨k1, k2⟩ := h4 (by simpa [upd] using hx)
        refine ⟨k1, (hw2.block _ (heap_lt k2) (fun x => x)).trans ?_⟩
        rw [k2]
        simp [upd]
      · simpa [upd] using hq4
      · simp [upd, Act.put]
    | 2, ho =>
      injection ho with ho
      subst ho
      simp [Region.binds] at hr
      simp only [hr, if_true]
      refine wp_quiet_here (ei) ?_ (fun w2 hw2 => ?_)
      · go_big_quiet_op
        exact ⟨_, Calm.calls c2, by simp [Act.put]⟩
      refine ⟨g4, hF.trans hw2, ?_, ?_, ?_⟩
      · intro hx
        obtain ⟨k1, k2⟩ := h4 (by simpa [upd] using hx)
        refine ⟨k1, (hw2.block _ (heap_lt k2) (fun x => x)).trans ?_⟩
        rw [k2]
        simp [upd]
      · simpa [upd] using hq4
      · simp [upd, Act.put, hr]
    | 3, ho =>
      injection ho with ho
      subst ho
      simp [Region.binds] at hr
      simp only [hr, if_true]
      refine wp_quiet_here (.agg #[.int .u64 x0, .int .u64 x1, .int .u64 x2, .int .u64 x3]) ?_ (fun w2 hw2 => ?_)
      · go_big_quiet_op
        exact ⟨_, Calm.calls c3, by simp [Act.put]⟩
      refine ⟨g4, hF.trans hw2, ?_, ?_, ?_⟩
      · intro hx
        obtain ⟨k1, k2⟩ := h4 (by simpa [upd] using hx)
        refine ⟨k1, (hw2.block _ (heap_lt k2) (fun x => x)).trans ?_⟩
        rw [k2]
        simp [upd]
      · simpa [upd] using hq4
      · simp [upd, Act.put, hr]
    | 4, ho =>
      injection ho with ho
      subst ho
      refine wp_alloc_any 28 rfl (#[.int .u64 0, .int .u64 0, .int .u64 0, .int .u64 0]) z28c ?_
      refine ⟨w3.heap.size, hF.alloc _, ?_, ?_, ?_⟩
      · intro _
        refine ⟨hF.size, (heap_alloc_new w3 _).trans ?_⟩
        have hs : b 5 = false := by
          rcases hbs : b 5 with _ | _
          · rfl
          · rw [hq4 hbs] at hb
            cases hb
        simp [upd, hs]
      · simp [upd]
      · simp [upd, Act.put]
    | 5, ho =>
      injection ho with ho
      subst ho
      simp [Region.binds] at hr
      obtain ⟨k1, k2⟩ := h4 (by simp [hr])
      rw [hb] at k2
      simp only [Bool.false_eq_true, if_false] at k2
      simp only [hr, if_true]
      refine wp_store_row 28 (.tmp 4) (.tmp 10) rfl g4 (#[.int .u64 x0, .int .u64 x1, .int .u64 x2, .int .u64 x3]) rfl rfl 28 _ k2 size28 rfl (vs_all .u64 [x0, x1, x2, x3]) ?_
      refine ⟨g4, hF.setRow _ (.inr k1), ?_, ?_, ?_⟩
      · intro _
        refine ⟨k1, (setRow_heap _ _ _ _ _ _ k2).trans ?_⟩
        simp [upd]
      · simp [upd, hr]
      · simp [upd, Act.put, hr]
    | j + 6, ho => exact absurd ho (by simp)
  case done =>
    intro b a w3 hall hI
    obtain ⟨g4, hF, h4, hq4, rfl⟩ := hI
    have t0 : b 0 = true := hall 0 (by simp)
    have t1 : b 1 = true := hall 1 (by simp)
    have t2 : b 2 = true := hall 2 (by simp)
    have t3 : b 3 = true := hall 3 (by simp)
    have t4 : b 4 = true := hall 4 (by simp)
    have t5 : b 5 = true := hall 5 (by simp)
    simp only [t0, t1, t2, t3, t4, t5, if_true, true_implies] at h4 hq4 ⊢
    have Y3 := Lib.hid (Calm.at X3.out hF)
    have Y4 := Lib.hid h4.2
    have F3 : Hid (Fr (fun _ => False) w w3) := F1.out.trans hF
    clear h4 hq4 hall hF X3 F1
    go_upto_region 3 with (fail)
    refine wp_region_head (C := Calm w3) 2 (Fr.refl _ _) ?_
    simp only [List.take_succ_cons, List.take_zero, List.drop_succ_cons, List.drop_zero]
    refine BigFrame.wpQuiet_want rfl fun K hK => quiet_load 28 (.tmp 3) rfl (q3) rfl 28 _ (0, 0) _ (fun _ h => Calm.at Y3.out h) Try.underlying28 rfl size28 (hK _ ?_)
    refine BigFrame.wpQuiet_want rfl fun K hK => ?_
    try simp only [Act.put, List.setIfInBounds_toArray, List.set_cons_succ, List.set_cons_zero]
    go_big_quiet_op
    refine ⟨_, Calm.calls c4, hK _ ?_⟩
    refine wpQuiet_nil ?_
    intro w4 hw4
    have Z3 := Lib.hid (Calm.at Y3.out hw4)
    have Z4 := Lib.hid (Calm.at Y4.out hw4)
    have F4 : Hid (Fr (fun _ => False) w w4) := F3.out.trans hw4
    clear hw4 F3 Y3 Y4
    try simp only [Act.put, List.setIfInBounds_toArray, List.set_cons_succ, List.set_cons_zero]
    go_upto_region 5 with (fail)
    refine wp_region_quiet (C := Calm w4) (by kernel_rfl) (by kernel_rfl) (Calm.start _ _ (Fr.refl _ _)) ?_
    refine BigFrame.wpQuiet_want rfl fun K hK => quiet_load 28 (.tmp 4) rfl (g4) rfl 28 _ (0, 0) _ (fun _ h => Calm.at Z4.out h) Try.underlying28 rfl size28 (hK _ ?_)
    refine BigFrame.wpQuiet_want rfl fun K hK => ?_
    try simp only [Act.put, List.setIfInBounds_toArray, List.set_cons_succ, List.set_cons_zero]
    go_big_quiet_op
    refine ⟨_, Calm.calls c5, hK _ ?_⟩
    refine BigFrame.wpQuiet_want rfl fun K hK => ?_
    try simp only [Act.put, List.setIfInBounds_toArray, List.set_cons_succ, List.set_cons_zero]
    go_big_quiet_op
    refine ⟨_, Calm.calls c6, hK _ ?_⟩
    refine BigFrame.wpQuiet_want rfl fun K hK => ?_
    try simp only [Act.put, List.setIfInBounds_toArray, List.set_cons_succ, List.set_cons_zero]
    go_big_quiet_op
    refine hK _ ?_
    refine BigFrame.wpQuiet_want rfl fun K hK => quiet_load 28 (.tmp 3) rfl (q3) rfl 28 _ (0, 0) _ (fun _ h => Calm.at Z3.out h) Try.underlying28 rfl size28 (hK _ ?_)
    refine BigFrame.wpQuiet_want rfl fun K hK => ?_
    try simp only [Act.put, List.setIfInBounds_toArray, List.set_cons_succ, List.set_cons_zero]
    go_big_quiet_op
    refine ⟨_, Calm.calls c2, hK _ ?_⟩
    refine BigFrame.wpQuiet_want rfl fun K hK => ?_
    try simp only [Act.put, List.setIfInBounds_toArray, List.set_cons_succ, List.set_cons_zero]
    go_big_quiet_op
    refine ⟨_, Calm.calls c8, hK _ ?_⟩
    refine BigFrame.wpQuiet_want rfl fun K hK => quiet_load 28 (.tmp 3) rfl (q3) rfl 28 _ (0, 0) _ (fun _ h => Calm.at Z3.out h) Try.underlying28 rfl size28 (hK _ ?_)
    refine BigFrame.wpQuiet_want rfl fun K hK => ?_
    try simp only [Act.put, List.setIfInBounds_toArray, List.set_cons_succ, List.set_cons_zero]
    go_big_quiet_op
    refine ⟨_, Calm.calls c9, hK _ ?_⟩
    refine BigFrame.wpQuiet_want rfl fun K hK => ?_
    try simp only [Act.put, List.setIfInBounds_toArray, List.set_cons_succ, List.set_cons_zero]
    go_big_quiet_op
    refine ⟨_, fun _ _ => rfl, hK _ ?_⟩
    refine BigFrame.wpQuiet_want rfl fun K hK => ?_
    try simp only [Act.put, List.setIfInBounds_toArray, List.set_cons_succ, List.set_cons_zero]
    go_big_quiet_op
    refine hK _ ?_
    refine BigFrame.wpQuiet_want rfl fun K hK => ?_
    try simp only [Act.put, List.setIfInBounds_toArray, List.set_cons_succ, List.set_cons_zero]
    go_big_quiet_op
    refine ⟨_, Calm.calls c7, hK _ ?_⟩
    refine BigFrame.wpQuiet_want rfl fun K hK => ?_
    try simp only [Act.put, List.setIfInBounds_toArray, List.set_cons_succ, List.set_cons_zero]
    go_big_quiet_op
    refine ⟨_, fun _ _ => rfl, hK _ ?_⟩
    refine BigFrame.wpQuiet_want rfl fun K hK => ?_
    try simp only [Act.put, List.setIfInBounds_toArray, List.set_cons_succ, List.set_cons_zero]
    go_big_quiet_op
    refine hK _ ?_
    refine wpQuiet_nil ?_
    intro w5 hw5
    have F5 : Hid (Fr (fun _ => False) w w5) := F4.out.trans hw5
    clear hw5
    try simp only [Act.put, List.setIfInBounds_toArray, List.set_cons_succ, List.set_cons_zero]
    go_wp2
    go_ret
    exact ⟨rfl, F5.out⟩

theorem law_inverse_any (l : List Int) (w : World) (hl : l.length = 32) (bl : Bys l) :
    Calls Try.prog 10 #[.agg (vs .u8 l)] w fun e w' => e = .returned (.bool true) ∧ Fr (fun _ => False) w w' := by
  by_cases h : fe l = 0
  · exact law_inverse_zero l w hl bl h
  · exact law_inverse_else l w hl bl h

set_option maxRecDepth 100000 in
theorem law_inverse_lifted (os : Os) (started : os.Started) (H : Type) (enc : TypeId × Value → H) :
    ReturnsInHanded {} Try.checked os 10 .any (Rows.fieldInverseSpec.pre6 enc Try.prog Try.f10 Rows.fieldInverseRow.domain false) (Rows.fieldInverseSpec.post enc Try.prog Try.f10 false true false false) := by
  refine returnsInHanded_of_change (C := Try.checked) own started (by kernel_rfl) Try.func10
    (ChangeSpec.witness6 (enc := enc) (C := Try.checked) false ⟨#[], #[.agg (vs .u8 (List.replicate 32 0))], []⟩ 8 (by kernel_rfl) (by kernel_rfl) (by kernel_rfl) (by kernel_rfl)) ?_
  intro W base args ds gs before hval0 hW hcnd _
  have hval : ∀ (j : Nat) t v, Try.f10.params[j]? = some t → args[j]? = some v → Value.okWide Try.prog W .any base t v := hval0
  have hW' := hW
  obtain ⟨p, q, hA0, hV, rfl, hfz, hnd⟩ := hW
  have hA : DataW.TrodAll enc Try.prog W 0 (fun _ => true) true Try.f10.params.toList args.toList ds p := hA0
  rw [Try.params10] at hA hval
  obtain ⟨v0, vs0, d0, ds0, p0, q0, hargs, rfl, rfl, h0, r0⟩ := trodAll_cons hA
  obtain ⟨rfl, rfl, rfl⟩ := trodAll_nil r0
  obtain rfl : args = #[v0] := by cases args; simp_all
  obtain ⟨rfl, rfl⟩ := trodVars_none hV
  obtain ⟨l0, rfl, e0, b0⟩ := open_bytes (hval 0 22 v0 rfl rfl) h0
  clear hA0 hval0
  refine (law_inverse_any l0 W e0 b0).mono fun e W' ⟨he, hg⟩ => ?_
  subst he
  exact ⟨_, rfl, post_true rfl hW' (by kernel_rfl) rfl rfl hg⟩

theorem fieldInverse_holds : Rows.FieldInverseSaid :=
  OpenClaim.holds_of_wide 10 Try.f10 rfl rfl rfl rfl rfl rfl rfl ⟨rfl, rfl, rfl, rfl, rfl⟩ rfl rfl rfl rfl rfl (by kernel_rfl) Try.func10 (by kernel_rfl)
    (of_decide_eq_true (by kernel_rfl)) (by unfold Func.isWrapper; first | (rw [if_pos (by decide +kernel)]; kernel_rfl) | (rw [if_neg (by decide +kernel)]; exact ⟨rfl, rfl⟩))
    (fun os started H enc _ => law_inverse_lifted os started H enc)
#print axioms fieldInverse_holds
end Go.Proofs.Ytmhoblefpkjdlaa
